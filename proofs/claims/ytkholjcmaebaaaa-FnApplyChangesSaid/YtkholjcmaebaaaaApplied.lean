import Derived.Test.YtkholjcmaebaaaaApplyP
import Derived.Test.YtkholjcmaebaaaaEdit2
import Derived.Test.YtkholjcmaebaaaaBaseB
import Derived.Deep.RegionLaw
namespace Go.Proofs.Ytkholjcmaebaaaa
open Go.RowKit
set_option linter.unusedVariables false
set_option maxRecDepth 100000
set_option linter.unusedSimpArgs false

/-! ### spec.applied -/
def AppQ (xs : List D) (ok : Bool) (w : World) (e : Ending) (w' : World) : Prop :=
  ∃ A c, e = .returned (.tuple #[.slice A xs.length c, .bool ok]) ∧ w'.ownsRow w.heap.size 94 2 (.slice A xs.length c) xs.length (flat xs) ∧ Below w.heap.size w w'

set_option maxHeartbeats 4000000 in
theorem applied_other (ds : List D) (nm : ByteArray) (ol nw : Int) (A : Option Addr) (n c : Nat) (w : World) (hr : SD w w.heap.size A n c ds) (hn : n ≤ 100) {x : Int} (hx : fidx (isNm nm) ds = x) (kd : Int) (h0 : kd ≠ 0) (h1 : kd ≠ 1) (h2 : kd ≠ 2) :
    Calls Try.prog 108 #[.slice A n c, .agg #[.int .i64 kd, .string nm, .int .i64 ol, .int .i64 nw]] w (fun e w' => e = .returned (.tuple #[.slice none 0 0, .bool false]) ∧ Below w.heap.size w w') := by
  obtain ⟨W0, hW0⟩ : ∃ W0 : World, W0 = w.alloc (.cells #[.int .i64 kd, .string nm, .int .i64 ol, .int .i64 nw] 137) := ⟨_, rfl⟩
  have hb0 : Below w.heap.size w W0 := by rw [hW0]; exact (Below.refl _ _).alloc (Nat.le_refl _) _
  have x0 : W0.cell? ⟨w.heap.size, 0, none⟩ = some (.int .i64 kd) := by rw [hW0]; simp [go_sem]
  have x1 : W0.cell? ⟨w.heap.size, 1, none⟩ = some (.string nm) := by rw [hW0]; simp [go_sem]
  have x2 : W0.cell? ⟨w.heap.size, 2, none⟩ = some (.int .i64 ol) := by rw [hW0]; simp [go_sem]
  have x3 : W0.cell? ⟨w.heap.size, 3, none⟩ = some (.int .i64 nw) := by rw [hW0]; simp [go_sem]
  have hs1 := (hr.below hb0).call hb0.size
  have HS1 := Lib.hid hs1
  have HB := Lib.hid hb0
  have HW0 := Lib.hid hW0.symm
  have HX := Lib.hid hx
  have HN := Lib.hid hn
  obtain rfl := hr.len
  clear hW0 hb0
  clear hr hx hn hs1
  go_enter Try.func108, Try.ntmps108
  go_wp2_with fail
  rw [HW0.out]
  refine (indexOf_v ds nm _ _ _ _ HS1.out HX.out).mono ?_
  rintro e w' ⟨rfl, rfl⟩
  clear HW0
  go_wp2
  go_ret2
  exact ⟨rfl, HB.out⟩

set_option maxHeartbeats 4000000 in
theorem applied_drop_none (ds : List D) (nm : ByteArray) (ol nw : Int) (A : Option Addr) (n c : Nat) (w : World) (hr : SD w w.heap.size A n c ds) (hn : n ≤ 100) {x : Int} (hx : fidx (isNm nm) ds = x) (hx0 : x < 0) :
    Calls Try.prog 108 #[.slice A n c, .agg #[.int .i64 1, .string nm, .int .i64 ol, .int .i64 nw]] w (fun e w' => e = .returned (.tuple #[.slice none 0 0, .bool false]) ∧ Below w.heap.size w w') := by
  obtain ⟨W0, hW0⟩ : ∃ W0 : World, W0 = w.alloc (.cells #[.int .i64 1, .string nm, .int .i64 ol, .int .i64 nw] 137) := ⟨_, rfl⟩
  have hb0 : Below w.heap.size w W0 := by rw [hW0]; exact (Below.refl _ _).alloc (Nat.le_refl _) _
  have x0 : W0.cell? ⟨w.heap.size, 0, none⟩ = some (.int .i64 1) := by rw [hW0]; simp [go_sem]
  have x1 : W0.cell? ⟨w.heap.size, 1, none⟩ = some (.string nm) := by rw [hW0]; simp [go_sem]
  have x2 : W0.cell? ⟨w.heap.size, 2, none⟩ = some (.int .i64 ol) := by rw [hW0]; simp [go_sem]
  have x3 : W0.cell? ⟨w.heap.size, 3, none⟩ = some (.int .i64 nw) := by rw [hW0]; simp [go_sem]
  have hs1 := (hr.below hb0).call hb0.size
  have HS1 := Lib.hid hs1
  have HB := Lib.hid hb0
  have HW0 := Lib.hid hW0.symm
  have HX := Lib.hid hx
  have HN := Lib.hid hn
  obtain rfl := hr.len
  clear hW0 hb0
  clear hr hx hn hs1
  go_enter Try.func108, Try.ntmps108
  go_wp2_with fail
  rw [HW0.out]
  refine (indexOf_v ds nm _ _ _ _ HS1.out HX.out).mono ?_
  rintro e w' ⟨rfl, rfl⟩
  clear HW0
  go_wp2
  go_quiet (fail)
  go_wp2
  go_ret2
  exact ⟨rfl, below_drewN HB.out _⟩

set_option maxHeartbeats 4000000 in
theorem applied_drop_old (ds : List D) (nm : ByteArray) (ol nw : Int) (A : Option Addr) (n c : Nat) (w : World) (hr : SD w w.heap.size A n c ds) (hn : n ≤ 100) {x : Int} (hx : fidx (isNm nm) ds = x) {k : Nat} (hk : k < ds.length) (hk2 : x = (k : Int)) (hv : ds[k].val ≠ ol) :
    Calls Try.prog 108 #[.slice A n c, .agg #[.int .i64 1, .string nm, .int .i64 ol, .int .i64 nw]] w (fun e w' => e = .returned (.tuple #[.slice none 0 0, .bool false]) ∧ Below w.heap.size w w') := by
  obtain ⟨W0, hW0⟩ : ∃ W0 : World, W0 = w.alloc (.cells #[.int .i64 1, .string nm, .int .i64 ol, .int .i64 nw] 137) := ⟨_, rfl⟩
  have hb0 : Below w.heap.size w W0 := by rw [hW0]; exact (Below.refl _ _).alloc (Nat.le_refl _) _
  have x0 : W0.cell? ⟨w.heap.size, 0, none⟩ = some (.int .i64 1) := by rw [hW0]; simp [go_sem]
  have x1 : W0.cell? ⟨w.heap.size, 1, none⟩ = some (.string nm) := by rw [hW0]; simp [go_sem]
  have x2 : W0.cell? ⟨w.heap.size, 2, none⟩ = some (.int .i64 ol) := by rw [hW0]; simp [go_sem]
  have x3 : W0.cell? ⟨w.heap.size, 3, none⟩ = some (.int .i64 nw) := by rw [hW0]; simp [go_sem]
  have hs1 := (hr.below hb0).call hb0.size
  have HS1 := Lib.hid hs1
  have HB := Lib.hid hb0
  have HW0 := Lib.hid hW0.symm
  have HX := Lib.hid hx
  have HN := Lib.hid hn
  obtain rfl := hr.len
  clear hW0 hb0
  subst hk2
  obtain ⟨b, o, hA, hbb, l1, l2⟩ := hs1.at_ hk
  subst hA
  have hki : (k : Int) < (ds.length : Int) := by omega
  have hk0 : (0 : Int) ≤ (k : Int) := by omega
  have hneg : ¬ ((k : Int) < 0) := by omega
  generalize ds[k] = d at *
  have hbne : (d.val != ol) = true := by simpa using hv
  clear hr hx hn hs1
  go_enter Try.func108, Try.ntmps108
  go_wp2_with fail
  rw [HW0.out]
  refine (indexOf_v ds nm _ _ _ _ HS1.out HX.out).mono ?_
  rintro e w' ⟨rfl, rfl⟩
  clear HW0
  go_wp2
  go_quiet (fail)
  go_wp2
  go_ret2
  exact ⟨rfl, below_drewN HB.out _⟩

set_option maxHeartbeats 4000000 in
theorem applied_turn_none (ds : List D) (nm : ByteArray) (ol nw : Int) (A : Option Addr) (n c : Nat) (w : World) (hr : SD w w.heap.size A n c ds) (hn : n ≤ 100) {x : Int} (hx : fidx (isNm nm) ds = x) (hx0 : x < 0) :
    Calls Try.prog 108 #[.slice A n c, .agg #[.int .i64 2, .string nm, .int .i64 ol, .int .i64 nw]] w (fun e w' => e = .returned (.tuple #[.slice none 0 0, .bool false]) ∧ Below w.heap.size w w') := by
  obtain ⟨W0, hW0⟩ : ∃ W0 : World, W0 = w.alloc (.cells #[.int .i64 2, .string nm, .int .i64 ol, .int .i64 nw] 137) := ⟨_, rfl⟩
  have hb0 : Below w.heap.size w W0 := by rw [hW0]; exact (Below.refl _ _).alloc (Nat.le_refl _) _
  have x0 : W0.cell? ⟨w.heap.size, 0, none⟩ = some (.int .i64 2) := by rw [hW0]; simp [go_sem]
  have x1 : W0.cell? ⟨w.heap.size, 1, none⟩ = some (.string nm) := by rw [hW0]; simp [go_sem]
  have x2 : W0.cell? ⟨w.heap.size, 2, none⟩ = some (.int .i64 ol) := by rw [hW0]; simp [go_sem]
  have x3 : W0.cell? ⟨w.heap.size, 3, none⟩ = some (.int .i64 nw) := by rw [hW0]; simp [go_sem]
  have hs1 := (hr.below hb0).call hb0.size
  have HS1 := Lib.hid hs1
  have HB := Lib.hid hb0
  have HW0 := Lib.hid hW0.symm
  have HX := Lib.hid hx
  have HN := Lib.hid hn
  obtain rfl := hr.len
  clear hW0 hb0
  clear hr hx hn hs1
  go_enter Try.func108, Try.ntmps108
  go_wp2_with fail
  rw [HW0.out]
  refine (indexOf_v ds nm _ _ _ _ HS1.out HX.out).mono ?_
  rintro e w' ⟨rfl, rfl⟩
  clear HW0
  go_wp2
  go_quiet (fail)
  go_wp2
  go_ret2
  exact ⟨rfl, below_drewN HB.out _⟩

set_option maxHeartbeats 4000000 in
theorem applied_turn_old (ds : List D) (nm : ByteArray) (ol nw : Int) (A : Option Addr) (n c : Nat) (w : World) (hr : SD w w.heap.size A n c ds) (hn : n ≤ 100) {x : Int} (hx : fidx (isNm nm) ds = x) {k : Nat} (hk : k < ds.length) (hk2 : x = (k : Int)) (hv : ds[k].val ≠ ol) :
    Calls Try.prog 108 #[.slice A n c, .agg #[.int .i64 2, .string nm, .int .i64 ol, .int .i64 nw]] w (fun e w' => e = .returned (.tuple #[.slice none 0 0, .bool false]) ∧ Below w.heap.size w w') := by
  obtain ⟨W0, hW0⟩ : ∃ W0 : World, W0 = w.alloc (.cells #[.int .i64 2, .string nm, .int .i64 ol, .int .i64 nw] 137) := ⟨_, rfl⟩
  have hb0 : Below w.heap.size w W0 := by rw [hW0]; exact (Below.refl _ _).alloc (Nat.le_refl _) _
  have x0 : W0.cell? ⟨w.heap.size, 0, none⟩ = some (.int .i64 2) := by rw [hW0]; simp [go_sem]
  have x1 : W0.cell? ⟨w.heap.size, 1, none⟩ = some (.string nm) := by rw [hW0]; simp [go_sem]
  have x2 : W0.cell? ⟨w.heap.size, 2, none⟩ = some (.int .i64 ol) := by rw [hW0]; simp [go_sem]
  have x3 : W0.cell? ⟨w.heap.size, 3, none⟩ = some (.int .i64 nw) := by rw [hW0]; simp [go_sem]
  have hs1 := (hr.below hb0).call hb0.size
  have HS1 := Lib.hid hs1
  have HB := Lib.hid hb0
  have HW0 := Lib.hid hW0.symm
  have HX := Lib.hid hx
  have HN := Lib.hid hn
  obtain rfl := hr.len
  clear hW0 hb0
  subst hk2
  obtain ⟨b, o, hA, hbb, l1, l2⟩ := hs1.at_ hk
  subst hA
  have hki : (k : Int) < (ds.length : Int) := by omega
  have hk0 : (0 : Int) ≤ (k : Int) := by omega
  have hneg : ¬ ((k : Int) < 0) := by omega
  generalize ds[k] = d at *
  have hbne : (d.val != ol) = true := by simpa using hv
  clear hr hx hn hs1
  go_enter Try.func108, Try.ntmps108
  go_wp2_with fail
  rw [HW0.out]
  refine (indexOf_v ds nm _ _ _ _ HS1.out HX.out).mono ?_
  rintro e w' ⟨rfl, rfl⟩
  clear HW0
  go_wp2
  go_quiet (fail)
  go_wp2
  go_ret2
  exact ⟨rfl, below_drewN HB.out _⟩

set_option maxHeartbeats 4000000 in
theorem applied_drop_new (ds : List D) (nm : ByteArray) (ol nw : Int) (A : Option Addr) (n c : Nat) (w : World) (hr : SD w w.heap.size A n c ds) (hn : n ≤ 100) {x : Int} (hx : fidx (isNm nm) ds = x) {k : Nat} (hk : k < ds.length) (hk2 : x = (k : Int)) (hv : ds[k].val = ol) (hnw : nw ≠ 0) :
    Calls Try.prog 108 #[.slice A n c, .agg #[.int .i64 1, .string nm, .int .i64 ol, .int .i64 nw]] w (fun e w' => e = .returned (.tuple #[.slice none 0 0, .bool false]) ∧ Below w.heap.size w w') := by
  obtain ⟨W0, hW0⟩ : ∃ W0 : World, W0 = w.alloc (.cells #[.int .i64 1, .string nm, .int .i64 ol, .int .i64 nw] 137) := ⟨_, rfl⟩
  have hb0 : Below w.heap.size w W0 := by rw [hW0]; exact (Below.refl _ _).alloc (Nat.le_refl _) _
  have x0 : W0.cell? ⟨w.heap.size, 0, none⟩ = some (.int .i64 1) := by rw [hW0]; simp [go_sem]
  have x1 : W0.cell? ⟨w.heap.size, 1, none⟩ = some (.string nm) := by rw [hW0]; simp [go_sem]
  have x2 : W0.cell? ⟨w.heap.size, 2, none⟩ = some (.int .i64 ol) := by rw [hW0]; simp [go_sem]
  have x3 : W0.cell? ⟨w.heap.size, 3, none⟩ = some (.int .i64 nw) := by rw [hW0]; simp [go_sem]
  have hs1 := (hr.below hb0).call hb0.size
  have HS1 := Lib.hid hs1
  have HB := Lib.hid hb0
  have HW0 := Lib.hid hW0.symm
  have HX := Lib.hid hx
  have HN := Lib.hid hn
  obtain rfl := hr.len
  clear hW0 hb0
  subst hk2
  obtain ⟨b, o, hA, hbb, l1, l2⟩ := hs1.at_ hk
  subst hA
  have hki : (k : Int) < (ds.length : Int) := by omega
  have hk0 : (0 : Int) ≤ (k : Int) := by omega
  have hneg : ¬ ((k : Int) < 0) := by omega
  rw [hv] at l2
  have hnb : (nw != 0) = true := by simpa using hnw
  clear hr hx hn hs1
  go_enter Try.func108, Try.ntmps108
  go_wp2_with fail
  rw [HW0.out]
  refine (indexOf_v ds nm _ _ _ _ HS1.out HX.out).mono ?_
  rintro e w' ⟨rfl, rfl⟩
  clear HW0
  go_wp2
  go_quiet (fail)
  go_wp2
  go_ret2
  exact ⟨rfl, below_drewN HB.out _⟩

set_option maxHeartbeats 4000000 in
theorem applied_drop_yes (ds : List D) (nm : ByteArray) (ol nw : Int) (A : Option Addr) (n c : Nat) (w : World) (hr : SD w w.heap.size A n c ds) (hn : n ≤ 100) {x : Int} (hx : fidx (isNm nm) ds = x) {k : Nat} (hk : k < ds.length) (hk2 : x = (k : Int)) (hv : ds[k].val = ol) (hnw : nw = 0) :
    Calls Try.prog 108 #[.slice A n c, .agg #[.int .i64 1, .string nm, .int .i64 ol, .int .i64 nw]] w (AppQ (ers ds k) true w) := by
  obtain ⟨W0, hW0⟩ : ∃ W0 : World, W0 = w.alloc (.cells #[.int .i64 1, .string nm, .int .i64 ol, .int .i64 nw] 137) := ⟨_, rfl⟩
  have hb0 : Below w.heap.size w W0 := by rw [hW0]; exact (Below.refl _ _).alloc (Nat.le_refl _) _
  have x0 : W0.cell? ⟨w.heap.size, 0, none⟩ = some (.int .i64 1) := by rw [hW0]; simp [go_sem]
  have x1 : W0.cell? ⟨w.heap.size, 1, none⟩ = some (.string nm) := by rw [hW0]; simp [go_sem]
  have x2 : W0.cell? ⟨w.heap.size, 2, none⟩ = some (.int .i64 ol) := by rw [hW0]; simp [go_sem]
  have x3 : W0.cell? ⟨w.heap.size, 3, none⟩ = some (.int .i64 nw) := by rw [hW0]; simp [go_sem]
  have hs1 := (hr.below hb0).call hb0.size
  have HS1 := Lib.hid hs1
  have HB := Lib.hid hb0
  have HW0 := Lib.hid hW0.symm
  have HX := Lib.hid hx
  have HN := Lib.hid hn
  obtain rfl := hr.len
  clear hW0 hb0
  subst hk2
  obtain ⟨b, o, hA, hbb, l1, l2⟩ := hs1.at_ hk
  subst hA
  have hki : (k : Int) < (ds.length : Int) := by omega
  have hk0 : (0 : Int) ≤ (k : Int) := by omega
  have hneg : ¬ ((k : Int) < 0) := by omega
  rw [hv] at l2
  have hnb : (nw != 0) = false := by simpa using hnw
  have HK := Lib.hid hk
  clear hr hx hn hs1 hnw
  go_enter Try.func108, Try.ntmps108
  go_wp2_with fail
  rw [HW0.out]
  refine (indexOf_v ds nm _ _ _ _ HS1.out HX.out).mono ?_
  rintro e w' ⟨rfl, rfl⟩
  clear HW0
  go_wp2
  go_quiet (fail)
  have HB2 := Lib.hid (below_drewN HB.out nq)
  have HS2 := Lib.hid (show SD (W0.drewN nq) (W0.drewN nq).heap.size _ _ _ _ from HS1.out.drewN nq)
  go_wp2_with fail
  refine (dropped_any ds k _ _ _ _ HS2.out HK.out (by have := HN.out; omega)).mono ?_
  rintro e w4 ⟨A4, c4, rfl, ho, hb⟩
  have HO := Lib.hid ho
  have HB4 := Lib.hid (HB2.out.trans (hb.mono HB2.out.size))
  clear hb ho
  go_wp2
  go_ret2
  exact ⟨A4, c4, rfl, own_base HO.out HB2.out.size, HB4.out⟩

set_option maxHeartbeats 4000000 in
theorem applied_turn_yes (ds : List D) (nm : ByteArray) (ol nw : Int) (A : Option Addr) (n c : Nat) (w : World) (hr : SD w w.heap.size A n c ds) (hn : n ≤ 100) {x : Int} (hx : fidx (isNm nm) ds = x) {k : Nat} (hk : k < ds.length) (hk2 : x = (k : Int)) (hv : ds[k].val = ol) {es : List D} (hes : rep ds k [⟨ds[k].name, nw⟩] = es) :
    Calls Try.prog 108 #[.slice A n c, .agg #[.int .i64 2, .string nm, .int .i64 ol, .int .i64 nw]] w (AppQ es true w) := by
  obtain ⟨W0, hW0⟩ : ∃ W0 : World, W0 = w.alloc (.cells #[.int .i64 2, .string nm, .int .i64 ol, .int .i64 nw] 137) := ⟨_, rfl⟩
  have hb0 : Below w.heap.size w W0 := by rw [hW0]; exact (Below.refl _ _).alloc (Nat.le_refl _) _
  have x0 : W0.cell? ⟨w.heap.size, 0, none⟩ = some (.int .i64 2) := by rw [hW0]; simp [go_sem]
  have x1 : W0.cell? ⟨w.heap.size, 1, none⟩ = some (.string nm) := by rw [hW0]; simp [go_sem]
  have x2 : W0.cell? ⟨w.heap.size, 2, none⟩ = some (.int .i64 ol) := by rw [hW0]; simp [go_sem]
  have x3 : W0.cell? ⟨w.heap.size, 3, none⟩ = some (.int .i64 nw) := by rw [hW0]; simp [go_sem]
  have hs1 := (hr.below hb0).call hb0.size
  have HS1 := Lib.hid hs1
  have HB := Lib.hid hb0
  have HW0 := Lib.hid hW0.symm
  have HX := Lib.hid hx
  have HN := Lib.hid hn
  obtain rfl := hr.len
  clear hW0 hb0
  subst hk2
  obtain ⟨b, o, hA, hbb, l1, l2⟩ := hs1.at_ hk
  subst hA
  have hki : (k : Int) < (ds.length : Int) := by omega
  have hk0 : (0 : Int) ≤ (k : Int) := by omega
  have hneg : ¬ ((k : Int) < 0) := by omega
  rw [hv] at l2
  have HFL : Hid ((flat ds).set (k * 2 + 1) (.int .i64 nw) = flat es) := Lib.hid (by rw [flat_set_val ds k hk, rep_set ds k hk, hes])
  have HLE : Hid (ds.length = es.length) := Lib.hid (by rw [← hes, ← rep_set ds k hk, List.length_set])
  clear hes
  clear hr hx hn hs1
  go_enter Try.func108, Try.ntmps108
  go_wp2_with fail
  rw [HW0.out]
  refine (indexOf_v ds nm _ _ _ _ HS1.out HX.out).mono ?_
  rintro e w' ⟨rfl, rfl⟩
  clear HW0
  go_wp2
  go_quiet (fail)
  have HB2 := Lib.hid (below_drewN HB.out nq)
  have HS2 := Lib.hid (show SD (W0.drewN nq) (W0.drewN nq).heap.size _ _ _ _ from HS1.out.drewN nq)
  have v3 : (W0.drewN nq).cell? ⟨w.heap.size, 3, none⟩ = _ := x3
  have HCL := Lib.hid (World.block_lt_of_cell? _ _ x3)
  generalize W0.drewN nq = wd at *
  go_wp2_with fail
  refine (copyDefs_n ds _ _ _ _ HS2.out (by have := HN.out; omega)).mono ?_
  rintro e w4 ⟨A4, c4, rfl, ho, hb⟩
  obtain ⟨g, rfl, hg1, hg2⟩ := own_addr ho (by omega)
  have u3 := keep1 hb v3
  have HB4 := Lib.hid (HB2.out.trans (hb.mono HB2.out.size))
  have HO := Lib.hid (show w4.ownsRow wd.heap.size 94 2 (.slice (some ⟨g, 0, none⟩) ds.length c4) ds.length (flat ds) from ho)
  have hf1 := HO.out.frozenAt (k * 2 + 1)
  obtain ⟨y1, hx1⟩ := own_cell HO.out (k * 2 + 1) (by omega)
  have HSW := Lib.hid (HO.out.stored (k * 2 + 1) (.int .i64 nw)).1
  have HG := Lib.hid (show w.heap.size ≤ g from Nat.le_trans HB2.out.size hg1)
  clear ho hb
  go_wp2
  go_ret2
  have h3 := HSW.out
  rw [HFL.out, HLE.out] at h3
  rw [HLE.out]
  exact ⟨_, c4, rfl, own_base h3 HB2.out.size, HB4.out.setCell HG.out _⟩

set_option maxHeartbeats 4000000 in
theorem applied_add_dup (ds : List D) (nm : ByteArray) (ol nw : Int) (A : Option Addr) (n c : Nat) (w : World) (hr : SD w w.heap.size A n c ds) (hn : n ≤ 100) {x : Int} (hx : fidx (isNm nm) ds = x) {k : Nat} (hk2 : x = (k : Int)) :
    Calls Try.prog 108 #[.slice A n c, .agg #[.int .i64 0, .string nm, .int .i64 ol, .int .i64 nw]] w (AppQ (ds ++ [⟨nm, nw⟩]) false w) := by
  obtain ⟨W0, hW0⟩ : ∃ W0 : World, W0 = w.alloc (.cells #[.int .i64 0, .string nm, .int .i64 ol, .int .i64 nw] 137) := ⟨_, rfl⟩
  have hb0 : Below w.heap.size w W0 := by rw [hW0]; exact (Below.refl _ _).alloc (Nat.le_refl _) _
  have x0 : W0.cell? ⟨w.heap.size, 0, none⟩ = some (.int .i64 0) := by rw [hW0]; simp [go_sem]
  have x1 : W0.cell? ⟨w.heap.size, 1, none⟩ = some (.string nm) := by rw [hW0]; simp [go_sem]
  have x2 : W0.cell? ⟨w.heap.size, 2, none⟩ = some (.int .i64 ol) := by rw [hW0]; simp [go_sem]
  have x3 : W0.cell? ⟨w.heap.size, 3, none⟩ = some (.int .i64 nw) := by rw [hW0]; simp [go_sem]
  have hs1 := (hr.below hb0).call hb0.size
  have HS1 := Lib.hid hs1
  have HB := Lib.hid hb0
  have HW0 := Lib.hid hW0.symm
  have HX := Lib.hid hx
  have HN := Lib.hid hn
  obtain rfl := hr.len
  clear hW0 hb0
  subst hk2
  have HFL : Hid (flat ds ++ [.string nm, .int .i64 nw] = flat (ds ++ [⟨nm, nw⟩])) := Lib.hid (by simp [flat, encD])
  have HML : Hid (ds.length + 1 = (ds ++ [(⟨nm, nw⟩ : D)]).length) := Lib.hid (by simp)
  generalize ds ++ [(⟨nm, nw⟩ : D)] = es at *
  clear hr hx hn hs1
  go_enter Try.func108, Try.ntmps108
  go_wp2_with fail
  rw [HW0.out]
  refine (indexOf_v ds nm _ _ _ _ HS1.out HX.out).mono ?_
  rintro e w' ⟨rfl, rfl⟩
  clear HW0
  have hw0 : Below W0.heap.size W0 W0 := Below.refl _ _
  go_wp2_with fail
  refine wp_region_held_drew (S := fun w' => w'.cell? ⟨w.heap.size, 1, none⟩ = some (.string nm) ∧ w'.cell? ⟨w.heap.size, 2, none⟩ = some (.int .i64 ol) ∧ w'.cell? ⟨w.heap.size, 3, none⟩ = some (.int .i64 nw)) (by kernel_rfl) ⟨x1, x2, x3⟩ (fun hHeld => ?_)
  refine wpAnyH_take (i := 0) (v := ?_) rfl (by kernel_rfl) (by kernel_rfl) (by kernel_rfl) (fun _ _ _ h => h) (Or.inl ⟨by rfl, ?_⟩) hHeld ?_
  rotate_left
  · intro w5 hSw
    try dsimp only at hSw
    first
    | (go_simp; done)
    | (go_simp; with_reducible rfl)
  try simp only [Act.put, List.setIfInBounds_toArray, List.set_cons_zero, List.set_cons_succ]
  refine wpAnyH_take (i := 2) (v := ?_) rfl (by kernel_rfl) (by kernel_rfl) (by kernel_rfl) (fun _ _ _ h => h) (Or.inl ⟨by rfl, ?_⟩) hHeld ?_
  rotate_left
  · intro w5 hSw
    try dsimp only at hSw
    first
    | (go_simp; done)
    | (go_simp; with_reducible rfl)
  try simp only [Act.put, List.setIfInBounds_toArray, List.set_cons_zero, List.set_cons_succ]
  refine wpAnyH_take (i := 3) (v := ?_) rfl (by kernel_rfl) (by kernel_rfl) (by kernel_rfl) (fun _ _ _ h => h) (Or.inl ⟨by rfl, ?_⟩) hHeld ?_
  rotate_left
  · intro w5 hSw
    try dsimp only at hSw
    first
    | (go_simp; done)
    | (go_simp; with_reducible rfl)
  try simp only [Act.put, List.setIfInBounds_toArray, List.set_cons_zero, List.set_cons_succ]
  refine wpAnyH_take (i := 4) (v := ?_) rfl (by kernel_rfl) (by kernel_rfl) (by kernel_rfl) (fun _ _ _ h => h) (Or.inl ⟨by rfl, ?_⟩) hHeld ?_
  rotate_left
  · intro w5 hSw
    try dsimp only at hSw
    first
    | (go_simp; done)
    | (go_simp; with_reducible rfl)
  try simp only [Act.put, List.setIfInBounds_toArray, List.set_cons_zero, List.set_cons_succ]
  refine wpAnyH_take (i := 5) (v := ?_) rfl (by kernel_rfl) (by kernel_rfl) (by kernel_rfl) (fun _ _ _ h => h) (Or.inl ⟨by rfl, ?_⟩) hHeld ?_
  rotate_left
  · intro w5 hSw
    try dsimp only at hSw
    first
    | (go_simp; done)
    | (go_simp; with_reducible rfl)
  try simp only [Act.put, List.setIfInBounds_toArray, List.set_cons_zero, List.set_cons_succ]
  refine wpAnyH_take (i := 6) (v := ?_) rfl (by kernel_rfl) (by kernel_rfl) (by kernel_rfl) (fun _ _ _ h => h) (Or.inl ⟨by rfl, ?_⟩) hHeld ?_
  rotate_left
  · intro w5 hSw
    try dsimp only at hSw
    first
    | (go_simp; done)
    | (go_simp; with_reducible rfl)
  try simp only [Act.put, List.setIfInBounds_toArray, List.set_cons_zero, List.set_cons_succ]
  refine wpAnyH_take (i := 9) (v := ?_) rfl (by kernel_rfl) (by kernel_rfl) (by kernel_rfl) (fun _ _ _ h => h) (Or.inl ⟨by rfl, ?_⟩) hHeld ?_
  rotate_left
  · intro w5 hSw
    try dsimp only at hSw
    first
    | (go_simp; done)
    | (go_simp; with_reducible rfl)
  try simp only [Act.put, List.setIfInBounds_toArray, List.set_cons_zero, List.set_cons_succ]
  refine wpAnyH_take (i := 10) (v := ?_) rfl (by kernel_rfl) (by kernel_rfl) (by kernel_rfl) (fun _ _ _ h => h) (Or.inl ⟨by rfl, ?_⟩) hHeld ?_
  rotate_left
  · intro w5 hSw
    try dsimp only at hSw
    first
    | (go_simp; done)
    | (go_simp; with_reducible rfl)
  try simp only [Act.put, List.setIfInBounds_toArray, List.set_cons_zero, List.set_cons_succ]
  refine wpAnyH_ready (rs := [1, 7]) (by kernel_rfl) (by simp) ?_
  refine AllReadyH.cons rfl (fun K hK => ?_) ?_
  · go_simp
    (go_at_call 72; refine (copyDefs_any ds _ _ _ _ (by first | exact HS1.out.drew | exact (HS1.out.drew.alloc (Nat.le_refl _) _).call (by simp)) (by have := HN.out; omega)).mono ?_; rintro e w2 ⟨A2, c2, rfl, ho, hb⟩; have hb2 : Below W0.heap.size W0 w2 := (by first | exact undrew hb | exact (((Below.refl _ _).drew).alloc (Nat.le_refl _) _).trans (hb.mono (by simp))); have ho2 : w2.ownsRow W0.heap.size 94 2 (.slice A2 ds.length c2) ds.length (flat ds) := own_base ho (by simp); have z1 := keep1 hb2 x1; have z2 := keep1 hb2 x2; have z3 := keep1 hb2 x3)
    refine hK.out _ _ ⟨z1, z2, z3⟩ (fun hHeld => ?_)
    clear hK K
    try simp only [Act.put, List.setIfInBounds_toArray, List.set_cons_zero, List.set_cons_succ]
    refine wpAnyH_ready (rs := [7]) (by kernel_rfl) (by simp) ?_
    refine AllReadyH.cons rfl (fun K hK => ?_) AllReadyH.nil
    go_simp
    refine hK.out _ _ ⟨keepA z1, keepA z2, keepA z3⟩ (fun hHeld => ?_)
    clear hK K
    try simp only [Act.put, List.setIfInBounds_toArray, List.set_cons_zero, List.set_cons_succ]
    refine wpAnyH_ready (rs := [8]) (by kernel_rfl) (by simp) ?_
    refine AllReadyH.cons rfl (fun K hK => ?_) AllReadyH.nil
    (refine step_app_D rfl _ _ rfl W0.heap.size _ _ _ rfl (by first | exact ho2 | exact ho2.alloc _) _ _ _ _ rfl (by first | exact heap_alloc_new _ _ | exact (hb.block _ (by simp)).trans (heap_alloc_new _ _)) (by have := HN.out; omega) (by first | exact hb2.size | (have := hb2.size; simp; omega)) ?_; intro v' w4 ho4 hg4; obtain ⟨A4, c4, rfl⟩ := own_form ho4; rw [HFL.out] at ho4; have hb4 : Below W0.heap.size W0 w4 := (by first | exact hb2.grown hg4 hb2.size (fun k hk => (ho2.lt k hk).1) | exact hb2.grown ((World.grownBy_alloc _ _ _).trans hg4) hb2.size (fun k hk => (ho2.lt k hk).1)); have u1 := keep1 hb4 x1; have u2 := keep1 hb4 x2; have u3 := keep1 hb4 x3)
    refine hK.out _ _ ⟨u1, u2, u3⟩ (fun hHeld => ?_)
    clear hK K
    try simp only [Act.put, List.setIfInBounds_toArray, List.set_cons_zero, List.set_cons_succ]
    refine wpAnyH_take (i := 11) (v := ?_) rfl (by kernel_rfl) (by kernel_rfl) (by kernel_rfl) (fun _ _ _ h => h) (Or.inl ⟨by rfl, ?_⟩) hHeld ?_
    rotate_left
    · intro w5 hSw
      try dsimp only at hSw
      first
      | (go_simp; done)
      | (go_simp; with_reducible rfl)
    try simp only [Act.put, List.setIfInBounds_toArray, List.set_cons_zero, List.set_cons_succ]
    refine wpAnyH_take (i := 16) (v := ?_) rfl (by kernel_rfl) (by kernel_rfl) (by kernel_rfl) (fun _ _ _ h => h) (Or.inl ⟨by rfl, ?_⟩) hHeld ?_
    rotate_left
    · intro w5 hSw
      try dsimp only at hSw
      first
      | (go_simp; done)
      | (go_simp; with_reducible rfl)
    try simp only [Act.put, List.setIfInBounds_toArray, List.set_cons_zero, List.set_cons_succ]
    refine wpAnyH_take (i := 12) (v := undef) rfl (by kernel_rfl) (by kernel_rfl) (by kernel_rfl) (fun _ _ _ h => h) (Or.inr ⟨by rfl, rfl⟩) hHeld ?_
    try simp only [Act.put, List.setIfInBounds_toArray, List.set_cons_zero, List.set_cons_succ]
    refine wpAnyH_take (i := 13) (v := undef) rfl (by kernel_rfl) (by kernel_rfl) (by kernel_rfl) (fun _ _ _ h => h) (Or.inr ⟨by rfl, rfl⟩) hHeld ?_
    try simp only [Act.put, List.setIfInBounds_toArray, List.set_cons_zero, List.set_cons_succ]
    refine wpAnyH_take (i := 14) (v := undef) rfl (by kernel_rfl) (by kernel_rfl) (by kernel_rfl) (fun _ _ _ h => h) (Or.inr ⟨by rfl, rfl⟩) hHeld ?_
    try simp only [Act.put, List.setIfInBounds_toArray, List.set_cons_zero, List.set_cons_succ]
    refine wpAnyH_take (i := 15) (v := ?_) rfl (by kernel_rfl) (by kernel_rfl) (by kernel_rfl) (fun _ _ _ h => h) (Or.inl ⟨by rfl, ?_⟩) hHeld ?_
    rotate_left
    · intro w5 hSw
      try dsimp only at hSw
      first
      | (go_simp; done)
      | (go_simp; with_reducible rfl)
    try simp only [Act.put, List.setIfInBounds_toArray, List.set_cons_zero, List.set_cons_succ]
    refine wpAnyH_take (i := 17) (v := ?_) rfl (by kernel_rfl) (by kernel_rfl) (by kernel_rfl) (fun _ _ _ h => h) (Or.inl ⟨by rfl, ?_⟩) hHeld ?_
    rotate_left
    · intro w5 hSw
      try dsimp only at hSw
      first
      | (go_simp; done)
      | (go_simp; with_reducible rfl)
    try simp only [Act.put, List.setIfInBounds_toArray, List.set_cons_zero, List.set_cons_succ]
    refine wpAnyH_done (by kernel_rfl) ?_ _
    have HB5 := Lib.hid (HB.out.trans (hb4.mono HB.out.size))
    have HO5 := Lib.hid (own_base ho4 HB.out.size)
    clear ho4 hb4 hg4
    go_wp2
    go_ret2
    exact ⟨A4, c4, by rw [← HML.out]; rfl, by rw [← HML.out]; exact HO5.out, HB5.out⟩
  refine AllReadyH.cons rfl (fun K hK => ?_) AllReadyH.nil
  · go_simp
    refine hK.out _ _ ⟨keepA x1, keepA x2, keepA x3⟩ (fun hHeld => ?_)
    clear hK K
    try simp only [Act.put, List.setIfInBounds_toArray, List.set_cons_zero, List.set_cons_succ]
    refine wpAnyH_ready (rs := [1]) (by kernel_rfl) (by simp) ?_
    refine AllReadyH.cons rfl (fun K hK => ?_) AllReadyH.nil
    go_simp
    (go_at_call 72; refine (copyDefs_any ds _ _ _ _ (by first | exact HS1.out.drew | exact (HS1.out.drew.alloc (Nat.le_refl _) _).call (by simp)) (by have := HN.out; omega)).mono ?_; rintro e w2 ⟨A2, c2, rfl, ho, hb⟩; have hb2 : Below W0.heap.size W0 w2 := (by first | exact undrew hb | exact (((Below.refl _ _).drew).alloc (Nat.le_refl _) _).trans (hb.mono (by simp))); have ho2 : w2.ownsRow W0.heap.size 94 2 (.slice A2 ds.length c2) ds.length (flat ds) := own_base ho (by simp); have z1 := keep1 hb2 x1; have z2 := keep1 hb2 x2; have z3 := keep1 hb2 x3)
    refine hK.out _ _ ⟨z1, z2, z3⟩ (fun hHeld => ?_)
    clear hK K
    try simp only [Act.put, List.setIfInBounds_toArray, List.set_cons_zero, List.set_cons_succ]
    refine wpAnyH_ready (rs := [8]) (by kernel_rfl) (by simp) ?_
    refine AllReadyH.cons rfl (fun K hK => ?_) AllReadyH.nil
    (refine step_app_D rfl _ _ rfl W0.heap.size _ _ _ rfl (by first | exact ho2 | exact ho2.alloc _) _ _ _ _ rfl (by first | exact heap_alloc_new _ _ | exact (hb.block _ (by simp)).trans (heap_alloc_new _ _)) (by have := HN.out; omega) (by first | exact hb2.size | (have := hb2.size; simp; omega)) ?_; intro v' w4 ho4 hg4; obtain ⟨A4, c4, rfl⟩ := own_form ho4; rw [HFL.out] at ho4; have hb4 : Below W0.heap.size W0 w4 := (by first | exact hb2.grown hg4 hb2.size (fun k hk => (ho2.lt k hk).1) | exact hb2.grown ((World.grownBy_alloc _ _ _).trans hg4) hb2.size (fun k hk => (ho2.lt k hk).1)); have u1 := keep1 hb4 x1; have u2 := keep1 hb4 x2; have u3 := keep1 hb4 x3)
    refine hK.out _ _ ⟨u1, u2, u3⟩ (fun hHeld => ?_)
    clear hK K
    try simp only [Act.put, List.setIfInBounds_toArray, List.set_cons_zero, List.set_cons_succ]
    refine wpAnyH_take (i := 11) (v := ?_) rfl (by kernel_rfl) (by kernel_rfl) (by kernel_rfl) (fun _ _ _ h => h) (Or.inl ⟨by rfl, ?_⟩) hHeld ?_
    rotate_left
    · intro w5 hSw
      try dsimp only at hSw
      first
      | (go_simp; done)
      | (go_simp; with_reducible rfl)
    try simp only [Act.put, List.setIfInBounds_toArray, List.set_cons_zero, List.set_cons_succ]
    refine wpAnyH_take (i := 16) (v := ?_) rfl (by kernel_rfl) (by kernel_rfl) (by kernel_rfl) (fun _ _ _ h => h) (Or.inl ⟨by rfl, ?_⟩) hHeld ?_
    rotate_left
    · intro w5 hSw
      try dsimp only at hSw
      first
      | (go_simp; done)
      | (go_simp; with_reducible rfl)
    try simp only [Act.put, List.setIfInBounds_toArray, List.set_cons_zero, List.set_cons_succ]
    refine wpAnyH_take (i := 12) (v := undef) rfl (by kernel_rfl) (by kernel_rfl) (by kernel_rfl) (fun _ _ _ h => h) (Or.inr ⟨by rfl, rfl⟩) hHeld ?_
    try simp only [Act.put, List.setIfInBounds_toArray, List.set_cons_zero, List.set_cons_succ]
    refine wpAnyH_take (i := 13) (v := undef) rfl (by kernel_rfl) (by kernel_rfl) (by kernel_rfl) (fun _ _ _ h => h) (Or.inr ⟨by rfl, rfl⟩) hHeld ?_
    try simp only [Act.put, List.setIfInBounds_toArray, List.set_cons_zero, List.set_cons_succ]
    refine wpAnyH_take (i := 14) (v := undef) rfl (by kernel_rfl) (by kernel_rfl) (by kernel_rfl) (fun _ _ _ h => h) (Or.inr ⟨by rfl, rfl⟩) hHeld ?_
    try simp only [Act.put, List.setIfInBounds_toArray, List.set_cons_zero, List.set_cons_succ]
    refine wpAnyH_take (i := 15) (v := ?_) rfl (by kernel_rfl) (by kernel_rfl) (by kernel_rfl) (fun _ _ _ h => h) (Or.inl ⟨by rfl, ?_⟩) hHeld ?_
    rotate_left
    · intro w5 hSw
      try dsimp only at hSw
      first
      | (go_simp; done)
      | (go_simp; with_reducible rfl)
    try simp only [Act.put, List.setIfInBounds_toArray, List.set_cons_zero, List.set_cons_succ]
    refine wpAnyH_take (i := 17) (v := ?_) rfl (by kernel_rfl) (by kernel_rfl) (by kernel_rfl) (fun _ _ _ h => h) (Or.inl ⟨by rfl, ?_⟩) hHeld ?_
    rotate_left
    · intro w5 hSw
      try dsimp only at hSw
      first
      | (go_simp; done)
      | (go_simp; with_reducible rfl)
    try simp only [Act.put, List.setIfInBounds_toArray, List.set_cons_zero, List.set_cons_succ]
    refine wpAnyH_done (by kernel_rfl) ?_ _
    have HB5 := Lib.hid (HB.out.trans (hb4.mono HB.out.size))
    have HO5 := Lib.hid (own_base ho4 HB.out.size)
    clear ho4 hb4 hg4
    go_wp2
    go_ret2
    exact ⟨A4, c4, by rw [← HML.out]; rfl, by rw [← HML.out]; exact HO5.out, HB5.out⟩

set_option maxHeartbeats 4000000 in
theorem applied_add_new (ds : List D) (nm : ByteArray) (ol nw : Int) (A : Option Addr) (n c : Nat) (w : World) (hr : SD w w.heap.size A n c ds) (hn : n ≤ 100) {x : Int} (hx : fidx (isNm nm) ds = x) (hx0 : x = -1) {v : Bool} (hv : (ol == 0) = v) :
    Calls Try.prog 108 #[.slice A n c, .agg #[.int .i64 0, .string nm, .int .i64 ol, .int .i64 nw]] w (AppQ (ds ++ [⟨nm, nw⟩]) v w) := by
  obtain ⟨W0, hW0⟩ : ∃ W0 : World, W0 = w.alloc (.cells #[.int .i64 0, .string nm, .int .i64 ol, .int .i64 nw] 137) := ⟨_, rfl⟩
  have hb0 : Below w.heap.size w W0 := by rw [hW0]; exact (Below.refl _ _).alloc (Nat.le_refl _) _
  have x0 : W0.cell? ⟨w.heap.size, 0, none⟩ = some (.int .i64 0) := by rw [hW0]; simp [go_sem]
  have x1 : W0.cell? ⟨w.heap.size, 1, none⟩ = some (.string nm) := by rw [hW0]; simp [go_sem]
  have x2 : W0.cell? ⟨w.heap.size, 2, none⟩ = some (.int .i64 ol) := by rw [hW0]; simp [go_sem]
  have x3 : W0.cell? ⟨w.heap.size, 3, none⟩ = some (.int .i64 nw) := by rw [hW0]; simp [go_sem]
  have hs1 := (hr.below hb0).call hb0.size
  have HS1 := Lib.hid hs1
  have HB := Lib.hid hb0
  have HW0 := Lib.hid hW0.symm
  have HX := Lib.hid hx
  have HN := Lib.hid hn
  obtain rfl := hr.len
  clear hW0 hb0
  subst hx0
  have HV := Lib.hid hv
  have HFL : Hid (flat ds ++ [.string nm, .int .i64 nw] = flat (ds ++ [⟨nm, nw⟩])) := Lib.hid (by simp [flat, encD])
  have HML : Hid (ds.length + 1 = (ds ++ [(⟨nm, nw⟩ : D)]).length) := Lib.hid (by simp)
  generalize ds ++ [(⟨nm, nw⟩ : D)] = es at *
  clear hr hx hn hs1
  go_enter Try.func108, Try.ntmps108
  go_wp2_with fail
  rw [HW0.out]
  refine (indexOf_v ds nm _ _ _ _ HS1.out HX.out).mono ?_
  rintro e w' ⟨rfl, rfl⟩
  clear HW0
  have hw0 : Below W0.heap.size W0 W0 := Below.refl _ _
  go_wp2_with fail
  go_region_held3 (fun w' => w'.cell? ⟨w.heap.size, 1, none⟩ = some (.string nm) ∧ w'.cell? ⟨w.heap.size, 2, none⟩ = some (.int .i64 ol) ∧ w'.cell? ⟨w.heap.size, 3, none⟩ = some (.int .i64 nw))
    (first | exact ⟨x1, x2, x3⟩ | with_reducible exact ⟨z1, z2, z3⟩ | with_reducible exact ⟨u1, u2, u3⟩ | with_reducible exact ⟨keepA x1, keepA x2, keepA x3⟩ | with_reducible exact ⟨keepA z1, keepA z2, keepA z3⟩ | exact ⟨keepA x1, keepA x2, keepA x3⟩ | exact ⟨keepA z1, keepA z2, keepA z3⟩)
    (first
      | (go_at_call 72; refine (copyDefs_any ds _ _ _ _ (by first | exact HS1.out.drew | exact (HS1.out.drew.alloc (Nat.le_refl _) _).call (by simp)) (by have := HN.out; omega)).mono ?_; rintro e w2 ⟨A2, c2, rfl, ho, hb⟩; have hb2 : Below W0.heap.size W0 w2 := (by first | exact undrew hb | exact (((Below.refl _ _).drew).alloc (Nat.le_refl _) _).trans (hb.mono (by simp))); have ho2 : w2.ownsRow W0.heap.size 94 2 (.slice A2 ds.length c2) ds.length (flat ds) := own_base ho (by simp); have z1 := keep1 hb2 x1; have z2 := keep1 hb2 x2; have z3 := keep1 hb2 x3)
      | (refine step_app_D rfl _ _ rfl W0.heap.size _ _ _ rfl (by first | exact ho2 | exact ho2.alloc _) _ _ _ _ rfl (by first | exact heap_alloc_new _ _ | exact (hb.block _ (by simp)).trans (heap_alloc_new _ _)) (by have := HN.out; omega) (by first | exact hb2.size | (have := hb2.size; simp; omega)) ?_; intro v' w4 ho4 hg4; obtain ⟨A4, c4, rfl⟩ := own_form ho4; rw [HFL.out] at ho4; have hb4 : Below W0.heap.size W0 w4 := (by first | exact hb2.grown hg4 hb2.size (fun k hk => (ho2.lt k hk).1) | exact hb2.grown ((World.grownBy_alloc _ _ _).trans hg4) hb2.size (fun k hk => (ho2.lt k hk).1)); have u1 := keep1 hb4 x1; have u2 := keep1 hb4 x2; have u3 := keep1 hb4 x3))
  all_goals
    have HB5 := Lib.hid (HB.out.trans (hb4.mono HB.out.size))
    have HO5 := Lib.hid (own_base ho4 HB.out.size)
    clear ho4 hb4 hg4
    go_wp2
    go_ret2
    exact ⟨A4, c4, by rw [← HML.out, ← HV.out]; rfl, by rw [← HML.out]; exact HO5.out, HB5.out⟩

/-- What spec.applied answers: definitions, and whether the change fits; the step is there if they are valid, too. -/
def AppR (ds : List D) (c : Ch) (w : World) (e : Ending) (w' : World) : Prop :=
  ∃ xs ok, AppQ xs ok w e w' ∧ (∀ x ∈ xs, x.ok) ∧ xs.length ≤ 13 ∧ mStep ds c = if ok then chkO xs else none
theorem appR_nil {ds : List D} {c : Ch} {w w' : World} {e : Ending} (h : e = .returned (.tuple #[.slice none 0 0, .bool false]) ∧ Below w.heap.size w w') (hm : mStep ds c = none) : AppR ds c w e w' :=
  ⟨[], false, ⟨none, 0, h.1, World.ownsRow_nil _ _ _ _, h.2⟩, by simp, Nat.zero_le _, by rw [hm]; rfl⟩
theorem applied_v (ds : List D) (c : Ch) (hc : c.ok) (hv : vEnum ds = true) (A : Option Addr) (n cp : Nat) (w : World) (hr : SD w w.heap.size A n cp ds) :
    Calls Try.prog 108 #[.slice A n cp, .agg #[.int .i64 c.kind, .string c.name, .int .i64 c.old, .int .i64 c.new]] w (AppR ds c w) := by
  have h12 := vEnum_len hv
  have hl := hr.len
  have hn : n ≤ 100 := by omega
  obtain ⟨kd, nm, ol, nw⟩ := c
  have hd : D.ok ⟨nm, nw⟩ := ⟨hc.1, hc.2.2.2⟩
  have hnd := ((vEnum_iff ds).1 hv).2.2
  have hok2 : ∀ x ∈ ds ++ [(⟨nm, nw⟩ : D)], x.ok := by
    intro x hx
    rcases List.mem_append.1 hx with h | h
    · exact hr.ok _ h
    · simp at h; subst h; exact hd
  by_cases h0 : kd = 0
  · subst h0
    rcases fidx_cases (isNm nm) ds with ⟨hx, _⟩ | ⟨k, hk, hx, _⟩
    · refine (applied_add_new ds nm ol nw A n cp w hr hn rfl hx rfl).mono ?_
      intro e w' h
      refine ⟨_, _, h, hok2, by simp; omega, ?_⟩
      by_cases ho : ol = 0
      · subst ho; simp [mStep, okC, mAfter, mAdd_yes hv]
      · rw [beq_eq_false_iff_ne.2 ho]
        simp [mStep, okC, Ne.symm ho]
    · refine (applied_add_dup ds nm ol nw A n cp w hr hn rfl hx).mono ?_
      intro e w' h
      refine ⟨_, _, h, hok2, by simp; omega, ?_⟩
      have := add_dup (vl := nw) hk hx
      simp [mStep, okC, mAfter, mAdd_yes hv, chkO, this]
  · by_cases h1 : kd = 1
    · subst h1
      rcases fidx_cases (isNm nm) ds with ⟨hx, _⟩ | ⟨k, hk, hx, _⟩
      · refine (applied_drop_none ds nm ol nw A n cp w hr hn rfl (by omega)).mono ?_
        intro e w' h
        have := fidx_isD_no (ds := ds) (nm := nm) (ol := ol) (by omega)
        exact appR_nil h (by simp [mStep, okC, mAfter, repO_no this])
      · by_cases hvl : ds[k].val = ol
        · have hfi := fidx_isD (ol := ol) hnd hk hx
          rw [if_pos hvl] at hfi
          by_cases hnw : nw = 0
          · refine (applied_drop_yes ds nm ol nw A n cp w hr hn rfl hk hx hvl hnw).mono ?_
            intro e w' h
            refine ⟨_, _, h, fun x hx => hr.ok _ (ers_mem hx), by rw [ers_len ds k hk]; omega, ?_⟩
            subst hnw
            simp only [mStep, okC, mAfter, hfi, repO_yes]
            rfl
          · refine (applied_drop_new ds nm ol nw A n cp w hr hn rfl hk hx hvl hnw).mono ?_
            intro e w' h
            exact appR_nil h (by simp [mStep, okC, Ne.symm hnw])
        · refine (applied_drop_old ds nm ol nw A n cp w hr hn rfl hk hx hvl).mono ?_
          intro e w' h
          have hfi := fidx_isD (ol := ol) hnd hk hx
          rw [if_neg hvl] at hfi
          exact appR_nil h (by simp [mStep, okC, mAfter, repO_no (show fidx (isD ⟨nm, ol⟩) ds < 0 by omega)])
    · by_cases h2 : kd = 2
      · subst h2
        rcases fidx_cases (isNm nm) ds with ⟨hx, _⟩ | ⟨k, hk, hx, hp, _⟩
        · refine (applied_turn_none ds nm ol nw A n cp w hr hn rfl (by omega)).mono ?_
          intro e w' h
          have := fidx_isD_no (ds := ds) (nm := nm) (ol := ol) (by omega)
          exact appR_nil h (by simp [mStep, okC, mAfter, repO_no this])
        · by_cases hvl : ds[k].val = ol
          · have hfi := fidx_isD (ol := ol) hnd hk hx
            rw [if_pos hvl] at hfi
            refine (applied_turn_yes ds nm ol nw A n cp w hr hn rfl hk hx hvl rfl).mono ?_
            intro e w' h
            have hnm : ds[k].name = nm := isNm_iff.1 hp
            rw [hnm] at h
            refine ⟨_, _, h, fun x hx => by rcases rep_mem hx with h | h; exact hr.ok _ h; simp at h; subst h; exact hd, by unfold rep; simp; omega, ?_⟩
            simp [mStep, okC, mAfter, hfi, repO_yes]
          · refine (applied_turn_old ds nm ol nw A n cp w hr hn rfl hk hx hvl).mono ?_
            intro e w' h
            have hfi := fidx_isD (ol := ol) hnd hk hx
            rw [if_neg hvl] at hfi
            exact appR_nil h (by simp [mStep, okC, mAfter, repO_no (show fidx (isD ⟨nm, ol⟩) ds < 0 by omega)])
      · refine (applied_other ds nm ol nw A n cp w hr hn rfl kd h0 h1 h2).mono ?_
        intro e w' h
        exact appR_nil h (by simp [mStep, okC, h0, h1, h2])
end Go.Proofs.Ytkholjcmaebaaaa
