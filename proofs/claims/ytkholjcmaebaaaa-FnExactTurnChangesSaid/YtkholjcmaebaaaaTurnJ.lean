import Derived.Test.YtkholjcmaebaaaaTurnI
import Derived.Deep.DeepCutAuto
namespace Go.Proofs.Ytkholjcmaebaaaa
open Go.RowKit Go.Shelf
set_option linter.unusedVariables false
set_option linter.unusedSimpArgs false
set_option maxRecDepth 100000
attribute [local go_sem] Oper.semAt_some

/-- The box of a change. -/
def Box4 (W : World) (B : Nat) (c : Ch) : Prop := W.heap[B]? = some (.cells #[.int .i64 c.kind, .string c.name, .int .i64 c.old, .int .i64 c.new] 137 (0, 0))
theorem Box4.own {W W' : World} {row : Option Nat} {B : Nat} {c : Ch} (h : Box4 W B c) (hg : W.grownBy W' row) (hr : ∀ r, row = some r → ∃ o : Obj, W.heap[r]? = some o ∧ o.isCells = false) : Box4 W' B c :=
  (hg.block B (Array.getElem?_eq_some_iff.1 h).1 (fun e => by obtain ⟨o, ho, hc⟩ := hr B e.symm; rw [show W.heap[B]? = _ from h] at ho; cases ho; cases hc)).trans h
theorem Box4.cell {W : World} {B : Nat} {c : Ch} (h : Box4 W B c) : W.cell? ⟨B, 0, none⟩ = some (.int .i64 c.kind) ∧ W.cell? ⟨B, 1, none⟩ = some (.string c.name) ∧ W.cell? ⟨B, 2, none⟩ = some (.int .i64 c.old) ∧ W.cell? ⟨B, 3, none⟩ = some (.int .i64 c.new) := by
  refine ⟨?_, ?_, ?_, ?_⟩ <;> simp [World.cell?, show W.heap[B]? = _ from h]
/-- A turned list, as it grows. -/
def turned (pre : List (Nat × Ch)) : List Ch := pre.map fun x => revC x.2
theorem turned_snoc (pre : List (Nat × Ch)) (x : Nat × Ch) : flatK (turned (pre ++ [x])) = flatK (turned pre) ++ [.int .i64 (turnKd x.2.kind), .string x.2.name, .int .i64 x.2.new, .int .i64 x.2.old] := by
  unfold turned
  rw [List.map_append, flatK_app]
  rfl
theorem turned_all {pre : List (Nat × Ch)} {ks : List Ch} (h : pre.map Prod.snd = ks.reverse) : turned pre = mTurn ks := by
  unfold turned mTurn
  rw [← h, List.map_map]
  rfl

set_option maxHeartbeats 16000000 in
theorem implTurn_any (ks : List Ch) (A : Option Addr) (n c : Nat) (w : World) (hr : SK w w.heap.size A n c ks) (hn : n ≤ 1048576) :
    Calls Try.prog 42 #[.slice A n c] w (FreshK (mTurn ks) w) := by
  obtain rfl := hr.len
  refine (callsIn_wide (n := 6)).1 ?_
  refine callsIn_of_wp_marks Try.func42 rfl trivial ?_ rfl
  simp only [Try.ntmps42, List.size_toArray, List.length_cons, List.length_nil, Nat.reduceAdd, Nat.reduceSub, Array.replicate_succ, Array.replicate_zero, List.push_toArray, List.append_toArray, List.nil_append, List.cons_append]
  gi_wp2_with (refine ⟨trivial, ?_⟩; gi_at_call 110; refine (back_in Fence.wide _ trivial rfl _ _ _ _).mono ?_; rintro e w' ⟨rfl, rfl⟩)
  have bO := (Boxed.new w 54 (.slice none 0 0)).alloc (.cells #[.slice A ks.length c] 54)
  have bN := Boxed.new (w.alloc (.cells #[.slice none 0 0] 54)) 54 (.slice A ks.length c)
  rw [World.size_alloc] at bN
  have hB0 : Below w.heap.size w ((w.alloc (.cells #[.slice none 0 0] 54)).alloc (.cells #[.slice A ks.length c] 54)) := ((Below.refl _ w).alloc (Nat.le_refl _) _).alloc (by simp) _
  have hsz : ((w.alloc (.cells #[.slice none 0 0] 54)).alloc (.cells #[.slice A ks.length c] 54)).heap.size = w.heap.size + 2 := by simp
  obtain ⟨W0, hW0⟩ : ∃ W0, (w.alloc (.cells #[.slice none 0 0] 54)).alloc (.cells #[.slice A ks.length c] 54) = W0 := ⟨_, rfl⟩
  rw [hW0] at bO bN hB0 hsz ⊢
  clear hW0
  refine wpIn_rangeFunc_ownH rfl (by omega) (gf := 166) (lb := #[.pointer (some ⟨w.heap.size + 1, 0, none⟩)]) rfl trivial (enters_of Try.func166 (by kernel_rfl) rfl)
    (back_stops Fence.wide 5 trivial rfl (by omega) (w.heap.size + 1) w.heap.size c A ks hn W0 (by omega) bN (hr.below hB0))
    (fun h k => ⟨h.1.trans k.1, k.2.trans h.2⟩) (fun W l o o' hl h hc hw => ⟨belowK_b (w := W0) (by omega) W l o o' hl h hc hw, World.putObj_heap_other (by omega)⟩) (Below.refl _ _) (fun _ => rfl)
    (fun pre W => ((∃ v, Boxed W w.heap.size 54 v ∧ W.ownsRow w.heap.size 137 4 v pre.length (flatK (turned pre)) ∧ True) ∧ Boxed W (w.heap.size + 1) 54 (.slice A ks.length c)) ∧ Below w.heap.size w W)
    (fun _ _ _ => False)
    (OwnFrom.and (OwnFrom.and (Own.from (holdsRow_own w.heap.size w.heap.size 54 137 4 (fun pre => pre.length) (fun pre => flatK (turned pre)) (fun _ _ => True)) _) (Own.from (boxed_own _ _ (fun _ => .slice A ks.length c)) _)) (ownFrom_below (Nat.le_refl _) (by omega)))
    (fun _ _ _ _ _ hs _ _ => hs)
    ⟨⟨⟨_, bO, World.ownsRow_nil _ _ _ _, trivial⟩, bN⟩, hB0⟩
    (fun x a' W => ∃ Bx, w.heap.size + 1 < Bx ∧ (∃ v, Boxed W w.heap.size 54 v ∧ v.ownBlock ≠ some Bx) ∧ Box4 W Bx x.2 ∧ a' = { tmps := #[.slice A ks.length c, undef, .slice none 0 0, .pointer (some ⟨w.heap.size, 0, none⟩), undef, .pointer (some ⟨Bx, 0, none⟩), .slice A ks.length c, .func (.func 166) #[] #[.pointer (some ⟨w.heap.size + 1, 0, none⟩)], .int .i64 (x.1 : Int), .agg #[.int .i64 x.2.kind, .string x.2.name, .int .i64 x.2.old, .int .i64 x.2.new], undef, undef, undef, undef, undef, undef, undef, undef, undef, undef, undef, undef, undef, undef], defers := [] })
    (fun x a' _ X Y row hs hg hr => by obtain ⟨Bx, h1, ⟨v, h4, h5⟩, h2, h3⟩ := hs; exact ⟨Bx, h1, ⟨v, boxed_own w.heap.size 54 (fun (_ : Unit) => v) () X Y row h4 hg (fun r e => (hr r e).2), h5⟩, h2.own hg (fun r e => (hr r e).2), h3⟩)
    ?assign ?body ?done ?stop
  case assign =>
    rintro l pre x W K ⟨⟨⟨v, hv, hrow, _⟩, hbx⟩, hB⟩ hK
    unfold encX
    gi_wp2
    have hN : ∀ (u : Obj), (W.alloc u).heap[w.heap.size + 1]? = W.heap[w.heap.size + 1]? := fun u => (hbx.alloc u).trans hbx.symm
    exact hK _ _ ((KeepsOthers.alloc _ _).from _) ⟨(Below.refl _ W).alloc hB.size _, hN _⟩ ⟨⟨⟨v, hv.alloc _, hrow.alloc _, trivial⟩, hbx.alloc _⟩, hB.alloc hB.size _⟩ ⟨W.heap.size, hbx.lt, ⟨v, hv.alloc _, fun e => by have := hrow.lt _ e; omega⟩, World.alloc_heap_new W _, rfl⟩
  case body =>
    rintro l pre x a' W hl ⟨r, hr⟩ ⟨⟨⟨v, hv, hrow, _⟩, hbx⟩, hB⟩ ⟨Bx, hBx, ⟨v2, hv2, hNE⟩, bX, rfl⟩ hlt
    have hvv : v = v2 := by have h := hv.symm.trans hv2; simpa using h
    rw [← hvv] at hNE
    clear hv2 hvv v2
    have cS := hv.cell
    obtain ⟨d0, d1, d2, d3⟩ := bX.cell
    obtain ⟨xi, kc⟩ := x
    gi_wp2
    refine region_round (S := fun w' => w'.cell? ⟨Bx, 0, none⟩ = some (.int .i64 kc.kind) ∧ w'.cell? ⟨Bx, 1, none⟩ = some (.string kc.name) ∧ w'.cell? ⟨Bx, 2, none⟩ = some (.int .i64 kc.old) ∧ w'.cell? ⟨Bx, 3, none⟩ = some (.int .i64 kc.new)) (by kernel_rfl) (by kernel_rfl) ⟨d0, d1, d2, d3⟩ (fun hHeld => ?_)
    have KD : KeepsOthers W W.drew := KeepsOthers.drew W
    have hv1 : Boxed W.drew w.heap.size 54 v := hv
    have hbx1 : Boxed W.drew (w.heap.size + 1) 54 (.slice A ks.length c) := hbx
    have bX1 : Box4 W.drew Bx kc := bX
    have hrow1 : W.drew.ownsRow w.heap.size 137 4 v pre.length (flatK (turned pre)) := hrow
    have hB1 : Below w.heap.size W W.drew := (Below.refl _ W).drew
    have hz1 : w.heap.size ≤ W.drew.heap.size := hB.size
    obtain ⟨V, hV⟩ : ∃ V : World, V = W.drew := ⟨_, rfl⟩
    have cV : W.drew.cell? ⟨w.heap.size, 0, none⟩ = some v := hv1.cell
    rw [← hV] at cV KD hv1 hbx1 bX1 hrow1 hB1 hz1 hHeld ⊢
    clear hV hv hrow cS d0 d1 d2 d3
    have cS := cV
    clear cV
    refine wpAnyH_take (i := 1) (v := ?_) rfl (by kernel_rfl) (by kernel_rfl) (by kernel_rfl) (fun _ _ _ h => by cases h.1) (Or.inl ⟨by kernel_rfl, ?_⟩) hHeld ?_
    rotate_left
    · intro wz hSw
      try dsimp only at hSw
      first
      | (go_simp; done)
      | (go_simp; with_reducible rfl)
    try simp only [Act.put, List.setIfInBounds_toArray, List.set_cons_zero, List.set_cons_succ]
    refine wpAnyH_take (i := 2) (v := ?_) rfl (by kernel_rfl) (by kernel_rfl) (by kernel_rfl) (fun _ _ _ h => by cases h.1) (Or.inl ⟨by kernel_rfl, ?_⟩) hHeld ?_
    rotate_left
    · intro wz hSw
      try dsimp only at hSw
      first
      | (go_simp; done)
      | (go_simp; with_reducible rfl)
    try simp only [Act.put, List.setIfInBounds_toArray, List.set_cons_zero, List.set_cons_succ]
    refine wpAnyH_take (i := 4) (v := ?_) rfl (by kernel_rfl) (by kernel_rfl) (by kernel_rfl) (fun _ _ _ h => by cases h.1) (Or.inl ⟨by kernel_rfl, ?_⟩) hHeld ?_
    rotate_left
    · intro wz hSw
      try dsimp only at hSw
      first
      | (go_simp; done)
      | (go_simp; with_reducible rfl)
    try simp only [Act.put, List.setIfInBounds_toArray, List.set_cons_zero, List.set_cons_succ]
    refine wpAnyH_take (i := 5) (v := ?_) rfl (by kernel_rfl) (by kernel_rfl) (by kernel_rfl) (fun _ _ _ h => by cases h.1) (Or.inl ⟨by kernel_rfl, ?_⟩) hHeld ?_
    rotate_left
    · intro wz hSw
      try dsimp only at hSw
      first
      | (go_simp; done)
      | (go_simp; with_reducible rfl)
    try simp only [Act.put, List.setIfInBounds_toArray, List.set_cons_zero, List.set_cons_succ]
    refine wpAnyH_take (i := 6) (v := ?_) rfl (by kernel_rfl) (by kernel_rfl) (by kernel_rfl) (fun _ _ _ h => by cases h.1) (Or.inl ⟨by kernel_rfl, ?_⟩) hHeld ?_
    rotate_left
    · intro wz hSw
      try dsimp only at hSw
      first
      | (go_simp; done)
      | (go_simp; with_reducible rfl)
    try simp only [Act.put, List.setIfInBounds_toArray, List.set_cons_zero, List.set_cons_succ]
    refine wpAnyH_take (i := 7) (v := ?_) rfl (by kernel_rfl) (by kernel_rfl) (by kernel_rfl) (fun _ _ _ h => by cases h.1) (Or.inl ⟨by kernel_rfl, ?_⟩) hHeld ?_
    rotate_left
    · intro wz hSw
      try dsimp only at hSw
      first
      | (go_simp; done)
      | (go_simp; with_reducible rfl)
    try simp only [Act.put, List.setIfInBounds_toArray, List.set_cons_zero, List.set_cons_succ]
    refine wpAnyH_take (i := 8) (v := ?_) rfl (by kernel_rfl) (by kernel_rfl) (by kernel_rfl) (fun _ _ _ h => by cases h.1) (Or.inl ⟨by kernel_rfl, ?_⟩) hHeld ?_
    rotate_left
    · intro wz hSw
      try dsimp only at hSw
      first
      | (go_simp; done)
      | (go_simp; with_reducible rfl)
    try simp only [Act.put, List.setIfInBounds_toArray, List.set_cons_zero, List.set_cons_succ]
    refine wpAnyH_take (i := 9) (v := ?_) rfl (by kernel_rfl) (by kernel_rfl) (by kernel_rfl) (fun _ _ _ h => by cases h.1) (Or.inl ⟨by kernel_rfl, ?_⟩) hHeld ?_
    rotate_left
    · intro wz hSw
      try dsimp only at hSw
      first
      | (go_simp; done)
      | (go_simp; with_reducible rfl)
    try simp only [Act.put, List.setIfInBounds_toArray, List.set_cons_zero, List.set_cons_succ]
    refine wpAnyH_ready (rs := [0, 3]) (by kernel_rfl) (by simp) ?_
    refine AllReadyH.cons rfl (fun K hK => ?_) (AllReadyH.cons rfl (fun K hK => ?_) AllReadyH.nil)
    · skip
      go_simp
      refine hK.out _ _ hHeld (fun hHeld => ?_)
      clear hK K
      try simp only [Act.put, List.setIfInBounds_toArray, List.set_cons_zero, List.set_cons_succ]
      refine wpAnyH_ready (rs := [3]) (by kernel_rfl) (by simp) ?_
      refine AllReadyH.cons rfl (fun K hK => ?_) AllReadyH.nil
      go_simp
      refine (turnedKind_any _ _).mono ?_
      rintro e V1 ⟨rfl, hw⟩
      rw [hw]
      clear hw V1
      go_simp
      refine hK.out _ _ hHeld (fun hHeld => ?_)
      clear hK K
      try simp only [Act.put, List.setIfInBounds_toArray, List.set_cons_zero, List.set_cons_succ]
      refine wpAnyH_take (i := 10) (v := ?_) rfl (by kernel_rfl) (by kernel_rfl) (by kernel_rfl) (fun _ _ _ h => by cases h.1) (Or.inl ⟨by kernel_rfl, ?_⟩) hHeld ?_
      rotate_left
      · intro wz hSw
        try dsimp only at hSw
        first
        | (go_simp; done)
        | (go_simp; with_reducible rfl)
      try simp only [Act.put, List.setIfInBounds_toArray, List.set_cons_zero, List.set_cons_succ]
      refine wpAnyH_ready (rs := [11]) (by kernel_rfl) (by simp) ?_
      refine AllReadyH.cons rfl (fun K hK => ?_) AllReadyH.nil
      go_simp
      have hbA := (Below.refl V.heap.size V).alloc (Nat.le_refl _) (.cells #[.int .i64 (turnKd kc.kind), .string kc.name, .int .i64 kc.new, .int .i64 kc.old] 137)
      refine hK.out _ _ ⟨keep1 hbA hHeld.1, keep1 hbA hHeld.2.1, keep1 hbA hHeld.2.2.1, keep1 hbA hHeld.2.2.2⟩ (fun hHeld => ?_)
      clear hK K
      try simp only [Act.put, List.setIfInBounds_toArray, List.set_cons_zero, List.set_cons_succ]
      refine wpAnyH_ready (rs := [12]) (by kernel_rfl) (by simp) ?_
      refine AllReadyH.cons rfl (fun K hK => ?_) AllReadyH.nil
      refine step_app_K rfl _ _ rfl w.heap.size v _ _ rfl (hrow1.alloc _) _ _ _ _ _ _ rfl (World.alloc_heap_new _ _) (by omega) (by simp; omega) ?_
      intro v' w5 ho hg
      obtain ⟨A5, c5, rfl⟩ := own_form ho
      obtain ⟨hv2, hv3, hr3, hk3, hb3⟩ := hv1.appended (by decide) hrow1 hz1 (Nat.le_refl _) ho hg
      have hbx2 := (hbx1.alloc (.cells #[.int .i64 (turnKd kc.kind), .string kc.name, .int .i64 kc.new, .int .i64 kc.old] 137)).kept hg (hbx1.not_row (by decide) hrow1)
      have bX2 : Box4 w5 Bx kc := (hg.block Bx (by have := (Array.getElem?_eq_some_iff.1 bX1).1; simp; omega) (fun e => hNE e.symm)).trans ((Below.heap_alloc _ _ _ (Array.getElem?_eq_some_iff.1 bX1).1).trans bX1)
      obtain ⟨d0, d1, d2, d3⟩ := bX2.cell
      have cS := hv2.cell
      have fS := hv2.frozen
      refine hK.out _ _ ?_ (fun hHeld => ?_)
      · exact ⟨d0, d1, d2, d3⟩
      clear hK K
      try simp only [Act.put, List.setIfInBounds_toArray, List.set_cons_zero, List.set_cons_succ]
      refine wpAnyH_ready (rs := [13]) (by kernel_rfl) (by simp) ?_
      refine AllReadyH.cons rfl (fun K hK => ?_) AllReadyH.nil
      go_simp
      have bX3 : Box4 (w5.setCell ⟨w.heap.size, 0, none⟩ (.slice A5 (pre.length + 1) c5)) Bx kc := (grownBy_setCell' w5 w.heap.size (.slice A5 (pre.length + 1) c5)).block Bx (Array.getElem?_eq_some_iff.1 bX2).1 (fun e => by injection e with e; omega) |>.trans bX2
      have hbx3 := hbx2.other (B' := w.heap.size) (by omega) (.slice A5 (pre.length + 1) c5)
      refine hK.out _ _ bX3.cell (fun hHeld => ?_)
      clear hK K
      refine wpAnyH_done (by kernel_rfl) ⟨rfl, ?_⟩ _
      try go_simp
      gi_wp2
      exact ⟨(KD.trans hk3).from _, ⟨hB1.trans hb3, hbx3.trans hbx.symm⟩, ⟨⟨⟨_, hv3, by rw [turned_snoc, List.length_append]; exact hr3, trivial⟩, hbx3⟩, hB.trans (hB1.trans hb3)⟩⟩
    · skip
      go_simp
      refine (turnedKind_any _ _).mono ?_
      rintro e V1 ⟨rfl, hw⟩
      rw [hw]
      clear hw V1
      go_simp
      refine hK.out _ _ hHeld (fun hHeld => ?_)
      clear hK K
      try simp only [Act.put, List.setIfInBounds_toArray, List.set_cons_zero, List.set_cons_succ]
      refine wpAnyH_take (i := 10) (v := ?_) rfl (by kernel_rfl) (by kernel_rfl) (by kernel_rfl) (fun _ _ _ h => by cases h.1) (Or.inl ⟨by kernel_rfl, ?_⟩) hHeld ?_
      rotate_left
      · intro wz hSw
        try dsimp only at hSw
        first
        | (go_simp; done)
        | (go_simp; with_reducible rfl)
      try simp only [Act.put, List.setIfInBounds_toArray, List.set_cons_zero, List.set_cons_succ]
      refine wpAnyH_ready (rs := [0, 11]) (by kernel_rfl) (by simp) ?_
      refine AllReadyH.cons rfl (fun K hK => ?_) (AllReadyH.cons rfl (fun K hK => ?_) AllReadyH.nil)
      · skip
        go_simp
        refine hK.out _ _ hHeld (fun hHeld => ?_)
        clear hK K
        try simp only [Act.put, List.setIfInBounds_toArray, List.set_cons_zero, List.set_cons_succ]
        refine wpAnyH_ready (rs := [11]) (by kernel_rfl) (by simp) ?_
        refine AllReadyH.cons rfl (fun K hK => ?_) AllReadyH.nil
        go_simp
        have hbA := (Below.refl V.heap.size V).alloc (Nat.le_refl _) (.cells #[.int .i64 (turnKd kc.kind), .string kc.name, .int .i64 kc.new, .int .i64 kc.old] 137)
        refine hK.out _ _ ⟨keep1 hbA hHeld.1, keep1 hbA hHeld.2.1, keep1 hbA hHeld.2.2.1, keep1 hbA hHeld.2.2.2⟩ (fun hHeld => ?_)
        clear hK K
        try simp only [Act.put, List.setIfInBounds_toArray, List.set_cons_zero, List.set_cons_succ]
        refine wpAnyH_ready (rs := [12]) (by kernel_rfl) (by simp) ?_
        refine AllReadyH.cons rfl (fun K hK => ?_) AllReadyH.nil
        refine step_app_K rfl _ _ rfl w.heap.size v _ _ rfl (hrow1.alloc _) _ _ _ _ _ _ rfl (World.alloc_heap_new _ _) (by omega) (by simp; omega) ?_
        intro v' w5 ho hg
        obtain ⟨A5, c5, rfl⟩ := own_form ho
        obtain ⟨hv2, hv3, hr3, hk3, hb3⟩ := hv1.appended (by decide) hrow1 hz1 (Nat.le_refl _) ho hg
        have hbx2 := (hbx1.alloc (.cells #[.int .i64 (turnKd kc.kind), .string kc.name, .int .i64 kc.new, .int .i64 kc.old] 137)).kept hg (hbx1.not_row (by decide) hrow1)
        have bX2 : Box4 w5 Bx kc := (hg.block Bx (by have := (Array.getElem?_eq_some_iff.1 bX1).1; simp; omega) (fun e => hNE e.symm)).trans ((Below.heap_alloc _ _ _ (Array.getElem?_eq_some_iff.1 bX1).1).trans bX1)
        obtain ⟨d0, d1, d2, d3⟩ := bX2.cell
        have cS := hv2.cell
        have fS := hv2.frozen
        refine hK.out _ _ ?_ (fun hHeld => ?_)
        · exact ⟨d0, d1, d2, d3⟩
        clear hK K
        try simp only [Act.put, List.setIfInBounds_toArray, List.set_cons_zero, List.set_cons_succ]
        refine wpAnyH_ready (rs := [13]) (by kernel_rfl) (by simp) ?_
        refine AllReadyH.cons rfl (fun K hK => ?_) AllReadyH.nil
        go_simp
        have bX3 : Box4 (w5.setCell ⟨w.heap.size, 0, none⟩ (.slice A5 (pre.length + 1) c5)) Bx kc := (grownBy_setCell' w5 w.heap.size (.slice A5 (pre.length + 1) c5)).block Bx (Array.getElem?_eq_some_iff.1 bX2).1 (fun e => by injection e with e; omega) |>.trans bX2
        have hbx3 := hbx2.other (B' := w.heap.size) (by omega) (.slice A5 (pre.length + 1) c5)
        refine hK.out _ _ bX3.cell (fun hHeld => ?_)
        clear hK K
        refine wpAnyH_done (by kernel_rfl) ⟨rfl, ?_⟩ _
        try go_simp
        gi_wp2
        exact ⟨(KD.trans hk3).from _, ⟨hB1.trans hb3, hbx3.trans hbx.symm⟩, ⟨⟨⟨_, hv3, by rw [turned_snoc, List.length_append]; exact hr3, trivial⟩, hbx3⟩, hB.trans (hB1.trans hb3)⟩⟩
      · skip
        go_simp
        have hbA := (Below.refl V.heap.size V).alloc (Nat.le_refl _) (.cells #[.int .i64 (turnKd kc.kind), .string kc.name, .int .i64 kc.new, .int .i64 kc.old] 137)
        refine hK.out _ _ ⟨keep1 hbA hHeld.1, keep1 hbA hHeld.2.1, keep1 hbA hHeld.2.2.1, keep1 hbA hHeld.2.2.2⟩ (fun hHeld => ?_)
        clear hK K
        try simp only [Act.put, List.setIfInBounds_toArray, List.set_cons_zero, List.set_cons_succ]
        refine wpAnyH_ready (rs := [0]) (by kernel_rfl) (by simp) ?_
        refine AllReadyH.cons rfl (fun K hK => ?_) AllReadyH.nil
        have cA := keep1 hbA cS
        go_simp
        refine hK.out _ _ hHeld (fun hHeld => ?_)
        clear hK K
        try simp only [Act.put, List.setIfInBounds_toArray, List.set_cons_zero, List.set_cons_succ]
        refine wpAnyH_ready (rs := [12]) (by kernel_rfl) (by simp) ?_
        refine AllReadyH.cons rfl (fun K hK => ?_) AllReadyH.nil
        refine step_app_K rfl _ _ rfl w.heap.size v _ _ rfl (hrow1.alloc _) _ _ _ _ _ _ rfl (World.alloc_heap_new _ _) (by omega) (by simp; omega) ?_
        intro v' w5 ho hg
        obtain ⟨A5, c5, rfl⟩ := own_form ho
        obtain ⟨hv2, hv3, hr3, hk3, hb3⟩ := hv1.appended (by decide) hrow1 hz1 (Nat.le_refl _) ho hg
        have hbx2 := (hbx1.alloc (.cells #[.int .i64 (turnKd kc.kind), .string kc.name, .int .i64 kc.new, .int .i64 kc.old] 137)).kept hg (hbx1.not_row (by decide) hrow1)
        have bX2 : Box4 w5 Bx kc := (hg.block Bx (by have := (Array.getElem?_eq_some_iff.1 bX1).1; simp; omega) (fun e => hNE e.symm)).trans ((Below.heap_alloc _ _ _ (Array.getElem?_eq_some_iff.1 bX1).1).trans bX1)
        obtain ⟨d0, d1, d2, d3⟩ := bX2.cell
        have cS := hv2.cell
        have fS := hv2.frozen
        refine hK.out _ _ ?_ (fun hHeld => ?_)
        · exact ⟨d0, d1, d2, d3⟩
        clear hK K
        try simp only [Act.put, List.setIfInBounds_toArray, List.set_cons_zero, List.set_cons_succ]
        refine wpAnyH_ready (rs := [13]) (by kernel_rfl) (by simp) ?_
        refine AllReadyH.cons rfl (fun K hK => ?_) AllReadyH.nil
        go_simp
        have bX3 : Box4 (w5.setCell ⟨w.heap.size, 0, none⟩ (.slice A5 (pre.length + 1) c5)) Bx kc := (grownBy_setCell' w5 w.heap.size (.slice A5 (pre.length + 1) c5)).block Bx (Array.getElem?_eq_some_iff.1 bX2).1 (fun e => by injection e with e; omega) |>.trans bX2
        have hbx3 := hbx2.other (B' := w.heap.size) (by omega) (.slice A5 (pre.length + 1) c5)
        refine hK.out _ _ bX3.cell (fun hHeld => ?_)
        clear hK K
        refine wpAnyH_done (by kernel_rfl) ⟨rfl, ?_⟩ _
        try go_simp
        gi_wp2
        exact ⟨(KD.trans hk3).from _, ⟨hB1.trans hb3, hbx3.trans hbx.symm⟩, ⟨⟨⟨_, hv3, by rw [turned_snoc, List.length_append]; exact hr3, trivial⟩, hbx3⟩, hB.trans (hB1.trans hb3)⟩⟩
  case done =>
    rintro D ys W hD hys ⟨⟨⟨v, hv, hrow, _⟩, hbx⟩, hB⟩ hK
    have cS := hv.cell
    rw [turned_all hys] at hrow
    have hyl : ys.length = (mTurn ks).length := by have := congrArg List.length hys; rw [mTurn_len]; simpa using this
    rw [hyl] at hrow
    obtain ⟨A', c', rfl⟩ := own_form hrow
    gi_wp2
    refine ⟨by simp, .inl ⟨_, _, rfl, run_takeDeferred hK, ?_⟩⟩
    exact ⟨_, results_tmp rfl _ _ _, A', c', rfl, ownsRow_putObj hrow _ hK rfl, hB.trans (belowK_b (w := w) (Nat.le_refl _) W D _ _ (by omega) hK rfl rfl)⟩
  case stop =>
    rintro D c pre W _ _ h _
    exact h.elim
end Go.Proofs.Ytkholjcmaebaaaa
