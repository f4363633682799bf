import Derived.Test.YtiklgghbkkmnaaaFind
import Derived.Test.YtiklgghbkkmnaaaCatD
namespace Go.Proofs.Ytiklgghbkkmnaaa
open Go.RowKit
set_option linter.unusedVariables false
set_option maxRecDepth 100000

/-! ### cells of the call's own -/
/-- Block b's first cell holds v and may be written. -/
def Cl (w : World) (b : Nat) (v : Value) : Prop := w.cell? ⟨b, 0, none⟩ = some v ∧ w.frozen? ⟨b, 0, none⟩ = false
theorem Cl.below {w w' : World} {b : Nat} {v : Value} (h : Cl w b v) (hb : Below w.heap.size w w') : Cl w' b v :=
  ⟨keep1 hb h.1, (hb.frozen (p := ⟨b, 0, none⟩) (World.block_lt_of_cell? _ _ h.1)).trans h.2⟩
theorem Cl.grown {w w' : World} {b : Nat} {v : Value} {row : Option Nat} (h : Cl w b v) (hg : w.grownBy w' row) (hr : some b ≠ row) : Cl w' b v :=
  ⟨hg.cell h.1 hr, by
    have hlt := World.block_lt_of_cell? _ _ h.1
    have := hg.block b hlt hr
    unfold World.frozen? at *
    simp only at this ⊢
    rw [this]; exact h.2⟩
theorem Cl.lt {w : World} {b : Nat} {v : Value} (h : Cl w b v) : b < w.heap.size := World.block_lt_of_cell? _ _ h.1
theorem Cl.drew {w : World} {b : Nat} {v : Value} (h : Cl w b v) : Cl w.drew b v := h
theorem Cl.alloc {w : World} {b : Nat} {v : Value} (h : Cl w b v) (o : Obj) : Cl (w.alloc o) b v := h.below ((Below.refl _ _).alloc (Nat.le_refl _) _)

theorem clNew {w w' : World} {v : Value} {t : TypeId} (hb : Below (w.alloc (.cells #[v] t)).heap.size (w.alloc (.cells #[v] t)) w') : Cl w' w.heap.size v :=
  Cl.below ⟨by simp [go_sem], by simp [go_sem]⟩ hb
theorem clNewD {w w' : World} {v : Value} {t : TypeId} (hb : Below (w.drew.alloc (.cells #[v] t)).heap.size (w.drew.alloc (.cells #[v] t)) w') : Cl w' w.heap.size v := clNew (w := w.drew) hb
theorem clNewLt {w w' : World} {v : Value} {t : TypeId} (hb : Below (w.alloc (.cells #[v] t)).heap.size (w.alloc (.cells #[v] t)) w') : w.heap.size < (w.alloc (.cells #[v] t)).heap.size := by simp
/-- A result that lies in a cell of its own beside its row: the cell was made last. -/
theorem cutA {k wr : World} {base n sz c0 : Nat} {ty t : TypeId} {A0 : Option Addr} {xs : List Value} (ho : wr.ownsRow base ty sz (.slice A0 n c0) n xs) (hbase : k.heap.size ≤ base) (hb : Below k.heap.size k wr) :
    (wr.alloc (.cells #[.slice A0 n c0] t)).cell? ⟨wr.heap.size, 0, none⟩ = some (.slice A0 n c0) ∧ (wr.alloc (.cells #[.slice A0 n c0] t)).ownsRow k.heap.size ty sz (.slice A0 n c0) n xs ∧ k.heap.size ≤ wr.heap.size ∧
      (∀ q, (Value.slice A0 n c0).ownBlock = some q → k.heap.size ≤ q ∧ q < (wr.alloc (.cells #[.slice A0 n c0] t)).heap.size) ∧ Below k.heap.size k (wr.alloc (.cells #[.slice A0 n c0] t)) ∧ (Value.slice A0 n c0).ownBlock ≠ some wr.heap.size :=
  ⟨by simp [go_sem], own_base (ho.alloc _) hbase, hb.size, fun q hq => by have := ho.lt q hq; simp; omega, hb.alloc hb.size _, fun e => by have := (ho.lt _ e).2; simp at this⟩
/-- .. the cell was there ahead of the row. -/
theorem cutB {k wr : World} {base n sz c0 g : Nat} {ty : TypeId} {A0 : Option Addr} {xs : List Value} {v : Value} (ho : wr.ownsRow base ty sz (.slice A0 n c0) n xs) (hbase : k.heap.size ≤ base) (hb : Below k.heap.size k wr) (hc : Cl wr g v) (hg : g < base) (hk : k.heap.size ≤ g) :
    (wr.setCell ⟨g, 0, none⟩ (.slice A0 n c0)).cell? ⟨g, 0, none⟩ = some (.slice A0 n c0) ∧ (wr.setCell ⟨g, 0, none⟩ (.slice A0 n c0)).ownsRow k.heap.size ty sz (.slice A0 n c0) n xs ∧ k.heap.size ≤ g ∧
      (∀ q, (Value.slice A0 n c0).ownBlock = some q → k.heap.size ≤ q ∧ q < (wr.setCell ⟨g, 0, none⟩ (.slice A0 n c0)).heap.size) ∧ Below k.heap.size k (wr.setCell ⟨g, 0, none⟩ (.slice A0 n c0)) ∧ (Value.slice A0 n c0).ownBlock ≠ some g :=
  ⟨World.cell?_setCell_same' _ _ _ (by rw [hc.1]; rfl), own_base (own_setCell ho (fun e => by have := (ho.lt _ e).1; simp at this; omega) _) hbase, hk, fun q hq => by have := ho.lt q hq; rw [World.size_setCell]; omega, hb.setCell hk _, fun e => by have := (ho.lt _ e).1; omega⟩
/-- A row of one's own, read in a world a little later. -/
theorem sdCall {w w' : World} {base n c : Nat} {A : Option Addr} {ds : List D} (h : w.ownsRow base 27 2 (.slice A n c) n (flat ds)) (hok : ∀ d ∈ ds, d.ok) (hb : Below w.heap.size w w') : SD w' w'.heap.size A n c ds :=
  sd_of_own (own_below h hb) hok

/-! ### what the functions of a changed enumeration answer -/
/-- An enumeration in new memory, and whether there is one. -/
def EnumR (ms : List D) (ok : Bool) (w : World) (e : Ending) (w' : World) : Prop :=
  ∃ A c, e = .returned (.tuple #[.agg #[.slice A ms.length c], .bool ok]) ∧ w'.ownsRow w.heap.size 27 2 (.slice A ms.length c) ms.length (flat ms) ∧ Below w.heap.size w w'
/-- An enumeration in new memory. -/
def EnumE (ms : List D) (w : World) (e : Ending) (w' : World) : Prop :=
  ∃ A c, e = .returned (.agg #[.slice A ms.length c]) ∧ w'.ownsRow w.heap.size 27 2 (.slice A ms.length c) ms.length (flat ms) ∧ Below w.heap.size w w'
/-- An enumeration in new memory, or none. -/
def EnumP (o : Option (List D)) (w : World) (e : Ending) (w' : World) : Prop :=
  ∃ A c, e = .returned (.tuple #[.agg #[.slice A (o.getD []).length c], .bool o.isSome]) ∧ w'.ownsRow w.heap.size 27 2 (.slice A (o.getD []).length c) (o.getD []).length (flat (o.getD [])) ∧ Below w.heap.size w w'
theorem enumP_none {w w' : World} (hb : Below w.heap.size w w') : EnumP none w (.returned (.tuple #[.agg #[.slice none 0 0], .bool false])) w' := ⟨none, 0, rfl, World.ownsRow_nil _ _ _ _, hb⟩
def chkO (ds : List D) : Option (List D) := if vEnum ds then some ds else none
theorem chkO_len (ds : List D) : ((chkO ds).getD []).length ≤ 12 := by
  unfold chkO
  cases h : vEnum ds
  · exact Nat.zero_le _
  · exact vEnum_len h
theorem chkO_mem {ds : List D} {x : D} (h : x ∈ (chkO ds).getD []) : x ∈ ds := by
  unfold chkO at h
  cases hv : vEnum ds
  · rw [hv] at h; cases h
  · rw [hv] at h; exact h
/-- What checking hands on. -/
def ChkQ (v : Bool) (A : Option Addr) (n c : Nat) (A' : Option Addr) (n' c' : Nat) : Prop := if v then A' = A ∧ n' = n ∧ c' = c else A' = none ∧ n' = 0 ∧ c' = 0
theorem chkQ_own {w : World} {base n c n' c' : Nat} {A A' : Option Addr} {ds : List D} (h : w.ownsRow base 27 2 (.slice A n c) n (flat ds)) (hq : ChkQ (vEnum ds) A n c A' n' c') :
    n' = ((chkO ds).getD []).length ∧ (chkO ds).isSome = vEnum ds ∧ w.ownsRow base 27 2 (.slice A' n' c') n' (flat ((chkO ds).getD [])) := by
  have hl : ds.length = n := by have := h.1; rw [flat_length] at this; omega
  unfold ChkQ at hq
  unfold chkO
  cases hv : vEnum ds
  · rw [hv] at hq
    obtain ⟨rfl, rfl, rfl⟩ := hq
    exact ⟨rfl, rfl, World.ownsRow_nil _ _ _ _⟩
  · rw [hv] at hq
    obtain ⟨rfl, rfl, rfl⟩ := hq
    exact ⟨hl.symm, rfl, h⟩
def ChkP (v : Bool) (A : Option Addr) (n c : Nat) (w : World) (e : Ending) (w' : World) : Prop :=
  ∃ A' n' c', e = .returned (.tuple #[.agg #[.slice A' n' c'], .bool v]) ∧ ChkQ v A n c A' n' c' ∧ Below w.heap.size w w'
theorem enumP_chk {ds : List D} {w w' : World} {A A' : Option Addr} {n c n' c' : Nat} (h : w'.ownsRow w.heap.size 27 2 (.slice A n c) n (flat ds)) (hq : ChkQ (vEnum ds) A n c A' n' c') (hb : Below w.heap.size w w') :
    EnumP (chkO ds) w (.returned (.tuple #[.agg #[.slice A' n' c'], .bool (vEnum ds)])) w' := by
  obtain ⟨h1, h2, h3⟩ := chkQ_own h hq
  unfold EnumP
  rw [← h1, h2]
  exact ⟨A', c', rfl, h3, hb⟩

set_option maxHeartbeats 1000000 in
theorem checked_any (ds : List D) (A : Option Addr) (n c : Nat) (w : World) (hr : SD w w.heap.size A n c ds) {v : Bool} (hv : vEnum ds = v) :
    Calls Try.prog 61 #[.slice A n c] w (ChkP v A n c w) := by
  have hb0 : Below w.heap.size w ((w.alloc (.cells #[.slice none 0 0] 25)).alloc (.cells #[.slice A n c] 25)) := ((Below.refl _ _).alloc (Nat.le_refl _) _).alloc (by simp) _
  have HC0 : Hid (Cl ((w.alloc (.cells #[.slice none 0 0] 25)).alloc (.cells #[.slice A n c] 25)) w.heap.size (.slice none 0 0)) := Lib.hid ⟨by simp [go_sem], by simp [go_sem]⟩
  have HC1 : Hid (Cl ((w.alloc (.cells #[.slice none 0 0] 25)).alloc (.cells #[.slice A n c] 25)) (w.heap.size + 1) (.slice A n c)) := Lib.hid ⟨by simp [go_sem], by simp [go_sem]⟩
  have HB0 := Lib.hid hb0
  have HV := Lib.hid hv
  have HR := Lib.hid ((hr.below hb0).call hb0.size)
  clear hr hv hb0
  cases v
  · go_enter Try.func61, Try.ntmps61
    go_wp2_with fail
    refine (implVE_v ds _ _ _ _ HR.out HV.out).mono ?_
    rintro e w1 ⟨rfl, hb⟩
    obtain ⟨x0, y0⟩ := HC0.out.below hb
    have HB := Lib.hid (HB0.out.trans (hb.mono HB0.out.size))
    clear hb
    go_wp2
    exact bodyPost_ret (v := .tuple #[.agg #[.slice none 0 0], .bool false]) (by simp [results, Try.results61, go_sem, x0]) rfl ⟨none, 0, 0, rfl, ⟨rfl, rfl, rfl⟩, HB.out.setCell (Nat.le_refl _) _⟩
  · go_enter Try.func61, Try.ntmps61
    go_wp2_with fail
    refine (implVE_v ds _ _ _ _ HR.out HV.out).mono ?_
    rintro e w1 ⟨rfl, hb⟩
    obtain ⟨x0, y0⟩ := HC0.out.below hb
    have x1 := (HC1.out.below hb).1
    have HB := Lib.hid (HB0.out.trans (hb.mono HB0.out.size))
    clear hb
    go_wp2
    exact bodyPost_ret (v := .tuple #[.agg #[.slice A n c], .bool true]) (by simp [results, Try.results61, go_sem, x0]) rfl ⟨A, n, c, rfl, ⟨rfl, rfl, rfl⟩, HB.out.setCell (Nat.le_refl _) _⟩

set_option maxHeartbeats 1000000 in
theorem checkedEnum_any (ds : List D) (A : Option Addr) (n c : Nat) (w : World) (hr : SD w w.heap.size A n c ds) {v : Bool} (hv : vEnum ds = v) :
    Calls Try.prog 64 #[.slice A n c] w (ChkP v A n c w) := by
  have hb0 : Below w.heap.size w ((w.alloc (.cells #[.slice none 0 0] 25)).alloc (.cells #[.slice A n c] 25)) := ((Below.refl _ _).alloc (Nat.le_refl _) _).alloc (by simp) _
  have HC0 : Hid (Cl ((w.alloc (.cells #[.slice none 0 0] 25)).alloc (.cells #[.slice A n c] 25)) w.heap.size (.slice none 0 0)) := Lib.hid ⟨by simp [go_sem], by simp [go_sem]⟩
  have HC1 : Hid (Cl ((w.alloc (.cells #[.slice none 0 0] 25)).alloc (.cells #[.slice A n c] 25)) (w.heap.size + 1) (.slice A n c)) := Lib.hid ⟨by simp [go_sem], by simp [go_sem]⟩
  have HB0 := Lib.hid hb0
  have HV := Lib.hid hv
  have HR := Lib.hid ((hr.below hb0).call hb0.size)
  clear hr hv hb0
  cases v
  · go_enter Try.func64, Try.ntmps64
    go_wp2_with fail
    refine (specVE_v ds _ _ _ _ HR.out HV.out).mono ?_
    rintro e w1 ⟨rfl, hb⟩
    obtain ⟨x0, y0⟩ := HC0.out.below hb
    have HB := Lib.hid (HB0.out.trans (hb.mono HB0.out.size))
    clear hb
    go_wp2
    exact bodyPost_ret (v := .tuple #[.agg #[.slice none 0 0], .bool false]) (by simp [results, Try.results64, go_sem, x0]) rfl ⟨none, 0, 0, rfl, ⟨rfl, rfl, rfl⟩, HB.out.setCell (Nat.le_refl _) _⟩
  · go_enter Try.func64, Try.ntmps64
    go_wp2_with fail
    refine (specVE_v ds _ _ _ _ HR.out HV.out).mono ?_
    rintro e w1 ⟨rfl, hb⟩
    obtain ⟨x0, y0⟩ := HC0.out.below hb
    have x1 := (HC1.out.below hb).1
    have HB := Lib.hid (HB0.out.trans (hb.mono HB0.out.size))
    clear hb
    go_wp2
    exact bodyPost_ret (v := .tuple #[.agg #[.slice A n c], .bool true]) (by simp [results, Try.results64, go_sem, x0]) rfl ⟨A, n, c, rfl, ⟨rfl, rfl, rfl⟩, HB.out.setCell (Nat.le_refl _) _⟩

set_option maxHeartbeats 1000000 in
theorem copyDefs_any (ds : List D) (A : Option Addr) (n c : Nat) (w : World) (hr : SD w w.heap.size A n c ds) (hn : n ≤ 1000) :
    Calls Try.prog 65 #[.slice A n c] w (FreshD ds w) := by
  have HL := Lib.hid hr.len
  have HR := Lib.hid ((hr.alloc (Nat.le_refl _) (.cells #[] 27)).sl)
  have HO : Hid ((w.alloc (.cells #[] 27)).ownsRow w.heap.size 27 2 (.slice (some ⟨w.heap.size, 0, none⟩) 0 0) 0 []) := Lib.hid (World.ownsRow_made w #[] 0 (Nat.le_refl _) (by unfold maxLen; omega) rfl)
  clear hr
  obtain ⟨i0, hi, hz0, hz1, hz2⟩ := info_parts info_D
  have HI := Lib.hid (And.intro hi (And.intro hz0 (And.intro hz1 hz2)))
  clear hi hz0 hz1 hz2
  go_enter Try.func65, Try.ntmps65
  go_wp2_with (
    at_builtin
    refine wpList_app_src rfl _ _ _ rfl w.heap.size _ i0 _ 2 24 Try.underlying23 HI.out rfl (by omega) (by omega) _ 0 _ rfl HO.out _ _ _ _ rfl (HR.out.src (fun _ => rfl)) (one_D _) (by omega) (by simp) ?_
    intro v' w1 ho hg
    rw [Nat.zero_add, List.nil_append] at ho
    obtain ⟨A1, c1, rfl⟩ := own_form ho
    have HO1 := Lib.hid ho
    have HB : Hid (Below w.heap.size w w1) := Lib.hid (((Below.refl _ _).alloc (Nat.le_refl _) _).grown hg (by simp) (fun k hk => (HO.out.lt k hk).1))
    clear ho hg)
  go_ret
  have h1 := HO1.out
  rw [← HL.out] at h1 ⊢
  exact ⟨A1, c1, rfl, h1, HB.out⟩

/-- Definitions with one more: an enumeration, or none. -/
def mAdd (ds : List D) (d : D) : Option (List D) := if vEnum ds then chkO (ds ++ [d]) else none
theorem mAdd_no {ds : List D} {d : D} (h : vEnum ds = false) : mAdd ds d = none := by unfold mAdd; rw [h]; rfl
theorem mAdd_yes {ds : List D} {d : D} (h : vEnum ds = true) : mAdd ds d = chkO (ds ++ [d]) := by unfold mAdd; rw [h]; rfl

theorem mAdd_len (ds : List D) (d : D) : ((mAdd ds d).getD []).length ≤ 12 := by
  unfold mAdd; split
  · exact chkO_len _
  · exact Nat.zero_le _
theorem mAdd_mem {ds : List D} {d x : D} (h : x ∈ (mAdd ds d).getD []) : x ∈ ds ∨ x = d := by
  unfold mAdd at h; split at h
  · simpa using chkO_mem h
  · cases h

set_option maxHeartbeats 2000000 in
theorem implAddDef_any (ds : List D) (d : D) (A : Option Addr) (n c : Nat) (w : World) (hr : SD w w.heap.size A n c ds) (hd : d.ok) :
    Calls Try.prog 16 #[.agg #[.slice A n c], .agg #[.string d.name, .int .i64 d.val]] w (EnumP (mAdd ds d) w) := by
  obtain ⟨W0, hW0⟩ : ∃ W0 : World, W0 = ((w.alloc (.cells #[.slice A n c] 25)).alloc (.cells #[.string d.name, .int .i64 d.val] 27)).alloc (.cells #[.slice none 0 0] 25) := ⟨_, rfl⟩
  have hb0 : Below w.heap.size w W0 := by rw [hW0]; exact (((Below.refl _ _).alloc (Nat.le_refl _) _).alloc (by simp) _).alloc (by simp; omega) _
  have hc0 : Cl W0 w.heap.size (.slice A n c) := by rw [hW0]; exact ⟨by simp [go_sem], by simp [go_sem]⟩
  have hd0 : W0.cell? ⟨w.heap.size + 1, 0, none⟩ = some (.string d.name) := by rw [hW0]; simp [go_sem]
  have hd1 : W0.cell? ⟨w.heap.size + 1, 1, none⟩ = some (.int .i64 d.val) := by rw [hW0]; simp [go_sem]
  have hc2 : Cl W0 (w.heap.size + 1 + 1) (.slice none 0 0) := by rw [hW0]; exact ⟨by simp [go_sem], by simp [go_sem]⟩
  have HC := Lib.hid (And.intro hc0 (And.intro hd0 (And.intro hd1 hc2)))
  have HB0 := Lib.hid hb0
  have HR := Lib.hid ((hr.below hb0).call hb0.size)
  have HN := Lib.hid hr.len
  have HD := Lib.hid hd
  have HOK := Lib.hid hr.ok
  have HW0 := Lib.hid hW0.symm
  clear hr hb0 hc0 hd0 hd1 hc2 hd hW0
  cases hv : vEnum ds
  · have HV := Lib.hid hv
    have HM := Lib.hid (mAdd_no (d := d) hv)
    clear hv
    go_enter Try.func16, Try.ntmps16
    go_wp2_with fail
    rw [HW0.out]
    refine (implVE_v ds _ _ _ _ HR.out HV.out).mono ?_
    rintro e w1 ⟨rfl, hb⟩
    obtain ⟨x2, y2⟩ := HC.out.2.2.2.below hb
    have HB := Lib.hid (HB0.out.trans (hb.mono HB0.out.size))
    clear hb
    go_wp2
    refine bodyPost_ret (v := .tuple #[.agg #[.slice none 0 0], .bool false]) (by simp [results, Try.results16, go_sem, x2]) rfl ?_
    rw [HM.out]
    exact enumP_none (HB.out.setCell (by show w.heap.size ≤ w.heap.size + 1 + 1; omega) _)
  · have HV := Lib.hid hv
    have h12 := vEnum_len hv
    have HM := Lib.hid (mAdd_yes (d := d) hv)
    clear hv
    go_enter Try.func16, Try.ntmps16
    go_wp2_with fail
    rw [HW0.out]
    refine (implVE_v ds _ _ _ _ HR.out HV.out).mono ?_
    rintro e w1 ⟨rfl, hb⟩
    have x0 := (HC.out.1.below hb).1
    have x1 := keep1 hb HC.out.2.1
    have x1' := keep1 hb HC.out.2.2.1
    have HX2 := Lib.hid (HC.out.2.2.2.below hb)
    have HB := Lib.hid (HB0.out.trans (hb.mono HB0.out.size))
    have HS1 := Lib.hid ((HR.out.below hb).call hb.size)
    clear hb HC HB0 HW0 HR
    obtain ⟨W3, hW3⟩ : ∃ W3 : World, W3 = (w1.alloc (.cells #[.string d.name, .int .i64 d.val] 27)).alloc (.cells #[.slice A n c, .slice (some ⟨w1.heap.size, 0, none⟩) 1 1] 23) := ⟨_, rfl⟩
    have hb3 : Below w1.heap.size w1 W3 := by rw [hW3]; exact ((Below.refl _ _).alloc (Nat.le_refl _) _).alloc (by simp) _
    have hz3 : W3.heap.size = w1.heap.size + 1 + 1 := by rw [hW3]; simp
    have HP : Hid (Rd W3 W3.heap.size 1 encP (some ⟨w1.heap.size + 1, 0, none⟩) [(⟨A, n, c, ds⟩ : Part D), ⟨some ⟨w1.heap.size, 0, none⟩, 1, 1, [d]⟩]) := Lib.hid (part2 (by rw [hW3]; simp [go_sem]) (by rw [hW3]; simp [go_sem]) (by omega))
    have HS3 : Hid (∀ p ∈ [(⟨A, n, c, ds⟩ : Part D), ⟨some ⟨w1.heap.size, 0, none⟩, 1, 1, [d]⟩], SL encD 2 W3 W3.heap.size p.A p.n p.c p.xs) := Lib.hid (by
      intro p hp
      simp at hp
      rcases hp with rfl | rfl
      · exact ((HS1.out.below hb3).call hb3.size).sl
      · exact (sd_one (by rw [hW3]; simp [go_sem]) (by rw [hW3]; simp [go_sem]) (by omega) HD.out).sl)
    have HX3 := Lib.hid (HX2.out.below hb3)
    have HB3 := Lib.hid (HB.out.trans (hb3.mono HB.out.size))
    have HW3 := Lib.hid hW3.symm
    have hml : (ds ++ [d]).length ≤ 1000 := by simp; omega
    have HE : Hid (cat [(⟨A, n, c, ds⟩ : Part D), ⟨some ⟨w1.heap.size, 0, none⟩, 1, 1, [d]⟩] = ds ++ [d]) := Lib.hid (by simp [cat])
    have HOK2 : Hid (∀ x ∈ ds ++ [d], x.ok) := Lib.hid (by
      intro x hx
      rcases List.mem_append.1 hx with h | h
      · exact HOK.out x h
      · simp at h; subst h; exact HD.out)
    clear hb3 hz3 hW3 HS1 HB HX2
    generalize hes : ds ++ [d] = es at *
    have HES := Lib.hid hes
    clear hes
    go_wp2_with fail
    rw [HW3.out]
    refine (concatD_v _ _ _ _ _ HP.out rfl (by simp) (by omega) HS3.out HE.out hml).mono ?_
    rintro e w4 ⟨A4, c4, rfl, ho, hb⟩
    have HB4 := Lib.hid (HB3.out.trans (hb.mono HB3.out.size))
    have HX4 := Lib.hid (HX3.out.below hb)
    have HO4 := Lib.hid (own_base (base' := w.heap.size + 1 + 1 + 1) ho (by have := HX3.out.lt; omega))
    have HS4 := Lib.hid (sd_of_own ho HOK2.out)
    clear ho hb HB3 HX3 HP HS3 HE
    generalize hv2 : vEnum es = v at *
    have HV2 := Lib.hid hv2
    clear hv2
    go_wp2_with fail
    refine (checked_any es _ _ _ _ HS4.out HV2.out).mono ?_
    rintro e w5 ⟨A5, n5, c5, rfl, hq, hb⟩
    obtain ⟨x2, y2⟩ := HX4.out.below hb
    have HB5 := Lib.hid (HB4.out.trans (hb.mono HB4.out.size))
    have HO5 := Lib.hid (own_below HO4.out hb)
    have HQ := Lib.hid hq
    clear hb hq HX4 HB4 HO4 HS4
    go_wp2
    refine bodyPost_ret (v := .tuple #[.agg #[.slice A5 n5 c5], .bool v]) (by simp [results, Try.results16, go_sem, x2]) rfl ?_
    rw [HM.out, ← HV2.out]
    exact enumP_chk (own_base (own_setCell HO5.out (fun e => by have := (HO5.out.lt _ e).1; simp at this; omega) _) (by omega)) (by rw [HV2.out]; exact HQ.out) (HB5.out.setCell (by show w.heap.size ≤ w.heap.size + 1 + 1; omega) _)
theorem keepS {w : World} {b o b' : Nat} {v u : Value} (h : w.cell? ⟨b, o, none⟩ = some v) (hne : b ≠ b') : (w.setCell ⟨b', 0, none⟩ u).cell? ⟨b, o, none⟩ = some v := by
  rw [World.cell?_setCell_other _ _ _ _ (fun e => hne (by injection e with e1; exact e1.symm))]; exact h
theorem keepA {w : World} {p : Addr} {v : Value} (h : w.cell? p = some v) {o : Obj} : (w.alloc o).cell? p = some v :=
  (World.cell?_alloc_lt w o p (World.block_lt_of_cell? _ _ h)).trans h

set_option maxHeartbeats 2000000 in
theorem specAddDef_any (ds : List D) (d : D) (A : Option Addr) (n c : Nat) (w : World) (hr : SD w w.heap.size A n c ds) (hd : d.ok) :
    Calls Try.prog 17 #[.agg #[.slice A n c], .agg #[.string d.name, .int .i64 d.val]] w (EnumP (mAdd ds d) w) := by
  obtain ⟨W0, hW0⟩ : ∃ W0 : World, W0 = ((w.alloc (.cells #[.slice A n c] 25)).alloc (.cells #[.string d.name, .int .i64 d.val] 27)).alloc (.cells #[.slice none 0 0] 25) := ⟨_, rfl⟩
  have hb0 : Below w.heap.size w W0 := by rw [hW0]; exact (((Below.refl _ _).alloc (Nat.le_refl _) _).alloc (by simp) _).alloc (by simp; omega) _
  have hc0 : Cl W0 w.heap.size (.slice A n c) := by rw [hW0]; exact ⟨by simp [go_sem], by simp [go_sem]⟩
  have hd0 : W0.cell? ⟨w.heap.size + 1, 0, none⟩ = some (.string d.name) := by rw [hW0]; simp [go_sem]
  have hd1 : W0.cell? ⟨w.heap.size + 1, 1, none⟩ = some (.int .i64 d.val) := by rw [hW0]; simp [go_sem]
  have hc2 : Cl W0 (w.heap.size + 1 + 1) (.slice none 0 0) := by rw [hW0]; exact ⟨by simp [go_sem], by simp [go_sem]⟩
  have HC := Lib.hid (And.intro hc0 (And.intro hd0 (And.intro hd1 hc2)))
  have HB0 := Lib.hid hb0
  have HR := Lib.hid ((hr.below hb0).call hb0.size)
  have HN := Lib.hid hr.len
  have HD := Lib.hid hd
  have HOK := Lib.hid hr.ok
  have HW0 := Lib.hid hW0.symm
  clear hr hb0 hc0 hd0 hd1 hc2 hd hW0
  cases hv : vEnum ds
  · have HV := Lib.hid hv
    have HM := Lib.hid (mAdd_no (d := d) hv)
    clear hv
    go_enter Try.func17, Try.ntmps17
    go_wp2_with fail
    rw [HW0.out]
    refine (specVE_v ds _ _ _ _ HR.out HV.out).mono ?_
    rintro e w1 ⟨rfl, hb⟩
    obtain ⟨x2, y2⟩ := HC.out.2.2.2.below hb
    have HB := Lib.hid (HB0.out.trans (hb.mono HB0.out.size))
    clear hb
    go_wp2
    refine bodyPost_ret (v := .tuple #[.agg #[.slice none 0 0], .bool false]) (by simp [results, Try.results17, go_sem, x2]) rfl ?_
    rw [HM.out]
    exact enumP_none (HB.out.setCell (by show w.heap.size ≤ w.heap.size + 1 + 1; omega) _)
  · have HV := Lib.hid hv
    have h12 := vEnum_len hv
    have HM := Lib.hid (mAdd_yes (d := d) hv)
    clear hv
    go_enter Try.func17, Try.ntmps17
    go_wp2_with fail
    rw [HW0.out]
    refine (specVE_v ds _ _ _ _ HR.out HV.out).mono ?_
    rintro e w1 ⟨rfl, hb⟩
    have x0 := (HC.out.1.below hb).1
    have x1 := keep1 hb HC.out.2.1
    have x1' := keep1 hb HC.out.2.2.1
    have HX2 := Lib.hid (HC.out.2.2.2.below hb)
    have HB := Lib.hid (HB0.out.trans (hb.mono HB0.out.size))
    have HS1 := Lib.hid ((HR.out.below hb).call hb.size)
    clear hb HC HB0 HW0 HR
    have hml : (ds ++ [d]).length = ds.length + 1 := by simp
    have HOK2 : Hid (∀ x ∈ ds ++ [d], x.ok) := Lib.hid (by
      intro x hx
      rcases List.mem_append.1 hx with h | h
      · exact HOK.out x h
      · simp at h; subst h; exact HD.out)
    have HFL : Hid (flat ds ++ [.string d.name, .int .i64 d.val] = flat (ds ++ [d])) := Lib.hid (by simp [flat, encD])
    generalize hes : ds ++ [d] = es at *
    have HES := Lib.hid hes
    have HML := Lib.hid hml
    clear hes hml
    generalize hv2 : vEnum es = v at *
    have HV2 := Lib.hid hv2
    clear hv2
    have HLT := Lib.hid HX2.out.lt
    go_wp2_with fail
    go_region_held3 (fun w' => w'.cell? ⟨w.heap.size, 0, none⟩ = some (.slice A n c) ∧ w'.cell? ⟨w.heap.size + 1, 0, none⟩ = some (.string d.name) ∧ w'.cell? ⟨w.heap.size + 1, 1, none⟩ = some (.int .i64 d.val))
      (first | with_reducible exact ⟨z0, z1, z2⟩ | with_reducible exact ⟨keepA z0, keepA z1, keepA z2⟩ | with_reducible exact ⟨u0, u1, u2⟩ | with_reducible exact ⟨t0, t1, t2⟩ | exact ⟨keepS t0 (by omega), keepS t1 (by omega), keepS t2 (by omega)⟩ | (refine ⟨?_, ?_, ?_⟩ <;> go_keep) | go_keep)
      (first
        | (go_at_call 65; refine (copyDefs_any ds _ _ _ _ (by first | exact HS1.out.drew | exact (HS1.out.drew.alloc (Nat.le_refl _) _).call (by simp)) (by have := HN.out; omega)).mono ?_; rintro e w2 ⟨A2, c2, rfl, ho, hb⟩; have hb2 : Below w1.heap.size w1 w2 := (by first | exact undrew hb | exact (((Below.refl _ _).drew).alloc (Nat.le_refl _) _).trans (hb.mono (by simp))); have ho2 : w2.ownsRow w1.heap.size 27 2 (.slice A2 ds.length c2) ds.length (flat ds) := own_base ho (by simp); have z0 := keep1 hb2 x0; have z1 := keep1 hb2 x1; have z2 := keep1 hb2 x1')
        | (refine step_app_D rfl _ _ rfl w1.heap.size _ _ _ rfl (by first | exact ho2 | exact ho2.alloc _) _ _ _ _ rfl (by first | exact heap_alloc_new _ _ | exact (hb.block _ (by simp)).trans (heap_alloc_new _ _)) (by omega) (by first | exact hb2.size | (have := hb2.size; simp; omega)) ?_; intro v' w4 ho4 hg4; obtain ⟨A4, c4, rfl⟩ := own_form ho4; rw [HFL.out] at ho4; have hb4 : Below w1.heap.size w1 w4 := (by first | exact hb2.grown hg4 hb2.size (fun k hk => (ho2.lt k hk).1) | exact hb2.grown ((World.grownBy_alloc _ _ _).trans hg4) hb2.size (fun k hk => (ho2.lt k hk).1)); have u0 := keep1 hb4 x0; have u1 := keep1 hb4 x1; have u2 := keep1 hb4 x1')
        | (go_at_call 64; refine (checkedEnum_any es _ _ _ _ (sd_of_own ho4 HOK2.out) HV2.out).mono ?_; rintro e w5 ⟨A5, n5, c5, rfl, hq, hb5⟩; have hb6 : Below w1.heap.size w1 w5 := hb4.trans (hb5.mono hb4.size); obtain ⟨x2, y2⟩ := HX2.out.below hb6; have t0 := keep1 hb6 x0; have t1 := keep1 hb6 x1; have t2 := keep1 hb6 x1'))
    all_goals
      have HB6 := Lib.hid (HB.out.trans (hb6.mono HB.out.size))
      have HO6 := Lib.hid (own_base (base' := w.heap.size + 1 + 1 + 1) (own_below ho4 hb5) (by have := HLT.out; omega))
      have HQ := Lib.hid hq
      clear hq ho4 hb6 hb5 hb4 hg4
      go_wp2
      refine bodyPost_ret (v := .tuple #[.agg #[.slice A5 n5 c5], .bool v]) (by simp [results, Try.results17, go_sem, x2]) rfl ?_
      rw [HM.out, ← HV2.out]
      exact enumP_chk (own_base (own_setCell HO6.out (fun e => by have := (HO6.out.lt _ e).1; simp at this; omega) _) (by omega)) (by rw [HV2.out]; exact HQ.out) (HB6.out.setCell (by show w.heap.size ≤ w.heap.size + 1 + 1; omega) _)
end Go.Proofs.Ytiklgghbkkmnaaa
