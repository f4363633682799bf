import Derived.Test.YtkholjcmaebaaaaArmV
import Derived.Test.YtkholjcmaebaaaaArmI
import Derived.Test.YtkholjcmaebaaaaCel
import Derived.Test.YtkholjcmaebaaaaBaseC
import Derived.Deep.DeepCutAuto
import Derived.Deep.LoopGhost
namespace Go.Proofs.Ytkholjcmaebaaaa
open Go.RowKit Go.Maps
set_option linter.unusedVariables false
set_option maxRecDepth 100000

/-! ### what comes of the numbers of a class: ten bools and a number in one block -/
structure OC (w : World) (g : Nat) (F : Nat → Bool) (x : Int) : Prop where
  c : ∀ j, j < 10 → w.cell? ⟨g, j, none⟩ = some (.bool (F j))
  cx : w.cell? ⟨g, 10, none⟩ = some (.int .i64 x)
  f : ∀ j, j < 11 → w.frozen? ⟨g, j, none⟩ = false
section
variable {w w' : World} {g : Nat} {F : Nat → Bool} {x : Int}
theorem OC.lt (h : OC w g F x) : g < w.heap.size := World.block_lt_of_cell? _ _ h.cx
theorem OC.below (h : OC w g F x) (hb : Below w.heap.size w w') : OC w' g F x :=
  ⟨fun j hj => keep1 hb (h.c j hj), keep1 hb h.cx, fun j hj => (hb.frozen (p := ⟨g, j, none⟩) h.lt).trans (h.f j hj)⟩
theorem OC.set (h : OC w g F x) {i : Nat} (hi : i < 10) {G : Nat → Bool} (hG : ∀ j, j < 10 → G j = if j = i then true else F j) : OC (w.setCell ⟨g, i, none⟩ (.bool true)) g G x := by
  refine ⟨fun j hj => ?_, ?_, fun j hj => by rw [fro_set]; exact h.f j hj⟩
  · rw [hG j hj]
    by_cases e : j = i
    · subst e; rw [if_pos rfl]; exact World.cell?_setCell_same' _ _ _ (by rw [h.c j hj]; rfl)
    · rw [if_neg e]; exact (World.cell?_setCell_other w _ _ _ (fun e => by injection e with _ e2; first | omega | exact absurd e2 (by omega))).trans (h.c j hj)
  · exact (World.cell?_setCell_other w _ _ _ (fun e => by injection e with _ e2; first | omega | exact absurd e2 (by omega))).trans h.cx
theorem OC.setx (h : OC w g F x) (y : Int) : OC (w.setCell ⟨g, 10, none⟩ (.int .i64 y)) g F y :=
  ⟨fun j hj => (World.cell?_setCell_other w _ _ _ (fun e => by injection e with _ e2; first | omega | exact absurd e2 (by omega))).trans (h.c j hj), World.cell?_setCell_same' _ _ _ (by rw [h.cx]; rfl), fun j hj => by rw [fro_set]; exact h.f j hj⟩
theorem OC.setO (h : OC w g F x) {p : Addr} (hp : p.block ≠ g) (u : Value) : OC (w.setCell p u) g F x :=
  ⟨fun j hj => (World.cell?_setCell_other w p _ u (fun e => by subst e; exact hp rfl)).trans (h.c j hj), (World.cell?_setCell_other w p _ u (fun e => by subst e; exact hp rfl)).trans h.cx, fun j hj => by rw [fro_set]; exact h.f j hj⟩
theorem OC.ext (h : OC w g F x) {G : Nat → Bool} (hG : ∀ j, j < 10 → G j = F j) : OC w g G x := ⟨fun j hj => by rw [hG j hj]; exact h.c j hj, h.cx, h.f⟩
end
theorem OC.low {w w' : World} {g : Nat} {F : Nat → Bool} {x : Int} {B : Nat} (h : OC w g F x) (hb : Below B w w') (hg : g < B) : OC w' g F x :=
  ⟨fun j hj => (hb.cell (p := ⟨g, j, none⟩) hg).trans (h.c j hj), (hb.cell (p := ⟨g, 10, none⟩) hg).trans h.cx, fun j hj => (hb.frozen (p := ⟨g, j, none⟩) hg).trans (h.f j hj)⟩
theorem oc_at (w : World) (F : Nat → Bool) (x : Int) : OC (w.alloc (.cells #[.bool (F 0), .bool (F 1), .bool (F 2), .bool (F 3), .bool (F 4), .bool (F 5), .bool (F 6), .bool (F 7), .bool (F 8), .bool (F 9), .int .i64 x] 119)) w.heap.size F x := by
  refine ⟨fun j hj => ?_, by simp [go_sem], fun j hj => ?_⟩
  · match j, hj with
    | 0, _ => simp [go_sem]
    | 1, _ => simp [go_sem]
    | 2, _ => simp [go_sem]
    | 3, _ => simp [go_sem]
    | 4, _ => simp [go_sem]
    | 5, _ => simp [go_sem]
    | 6, _ => simp [go_sem]
    | 7, _ => simp [go_sem]
    | 8, _ => simp [go_sem]
    | 9, _ => simp [go_sem]
    | j + 10, hj => omega
  · simp [go_sem]
theorem oc_new (w : World) (x : Int) : OC (w.alloc (.cells #[.bool false, .bool false, .bool false, .bool false, .bool false, .bool false, .bool false, .bool false, .bool false, .bool false, .int .i64 x] 119)) w.heap.size (fun _ => false) x := by
  refine ⟨fun j hj => ?_, by simp [go_sem], fun j hj => ?_⟩
  · match j, hj with
    | 0, _ => simp [go_sem]
    | 1, _ => simp [go_sem]
    | 2, _ => simp [go_sem]
    | 3, _ => simp [go_sem]
    | 4, _ => simp [go_sem]
    | 5, _ => simp [go_sem]
    | 6, _ => simp [go_sem]
    | 7, _ => simp [go_sem]
    | 8, _ => simp [go_sem]
    | 9, _ => simp [go_sem]
    | j + 10, hj => omega
  · simp [go_sem]

set_option maxHeartbeats 8000000 in
theorem outcome_no (ds : List D) (b : Int) (rs : List Ar) (A : Option Addr) (m c : Nat) (w : World) (hr : SD w w.heap.size A m c ds) (As : Option Addr) (q cs : Nat) (hs : SA w w.heap.size As q cs rs) (hn : m ≤ 1048576) (hv : mArms ds b rs = false) :
    Calls Try.prog 96 #[.agg #[.slice A m c, .int .i64 b], .slice As q cs] w (fun e w' => e = .returned (.tuple #[.agg #[.bool false, .bool false, .bool false, .bool false, .bool false, .bool false, .bool false, .bool false, .bool false, .bool false, .int .i64 0], .bool false]) ∧ Below w.heap.size w w') := by
  have hl := hs.max
  have hl2 := hs.cap
  unfold maxLen at hl
  obtain rfl := hs.len
  have HF := Lib.hid ((FB.start hr b).alloc (.cells #[.bool false, .bool false, .bool false, .bool false, .bool false, .bool false, .bool false, .bool false, .bool false, .bool false, .int .i64 0] 119))
  have HSA : Hid (SA ((w.alloc (.cells #[.slice A m c, .int .i64 b] 25)).alloc (.cells #[.bool false, .bool false, .bool false, .bool false, .bool false, .bool false, .bool false, .bool false, .bool false, .bool false, .int .i64 0] 119)) w.heap.size As rs.length cs rs) := Lib.hid (hs.below HF.out.bel)
  have HO : Hid (OC ((w.alloc (.cells #[.slice A m c, .int .i64 b] 25)).alloc (.cells #[.bool false, .bool false, .bool false, .bool false, .bool false, .bool false, .bool false, .bool false, .bool false, .bool false, .int .i64 0] 119)) (w.heap.size + 1) (fun _ => false) 0) := Lib.hid (by have := oc_new (w.alloc (.cells #[.slice A m c, .int .i64 b] 25)) 0; simpa using this)
  have c0 := HF.out.c0
  have c1 := HF.out.c1
  clear hr hs
  have HV := Lib.hid hv
  have HR2 : Hid ((if mArms ds b rs then ((mMask ds : Nat) : Int) else 0) = 0) := Lib.hid (if_no hv)
  clear hv
  go_enter Try.func96, Try.ntmps96
  go_wp2
  go_step3
  go_wp2_with fail
  generalize ((w.alloc (.cells #[.slice A m c, .int .i64 b] 25)).alloc (.cells #[.bool false, .bool false, .bool false, .bool false, .bool false, .bool false, .bool false, .bool false, .bool false, .bool false, .int .i64 0] 119)) = w0 at *
  refine (armsMask_v ds b rs _ _ _ _ HF.out.sd _ _ _ (HSA.out.call HF.out.bel.size) hn HV.out HR2.out).mono ?_
  rintro e w1 ⟨rfl, hb⟩
  have HB1 := Lib.hid (HF.out.after hb)
  have HO1 := Lib.hid (HO.out.below hb)
  clear hb HF HSA HO c0 c1
  have b0 := HO1.out.c 0 (by omega)
  have f0 := HO1.out.f 0 (by omega)
  have b1 := HO1.out.c 1 (by omega)
  have f1 := HO1.out.f 1 (by omega)
  have b2 := HO1.out.c 2 (by omega)
  have f2 := HO1.out.f 2 (by omega)
  have b3 := HO1.out.c 3 (by omega)
  have f3 := HO1.out.f 3 (by omega)
  have b4 := HO1.out.c 4 (by omega)
  have f4 := HO1.out.f 4 (by omega)
  have b5 := HO1.out.c 5 (by omega)
  have f5 := HO1.out.f 5 (by omega)
  have b6 := HO1.out.c 6 (by omega)
  have f6 := HO1.out.f 6 (by omega)
  have b7 := HO1.out.c 7 (by omega)
  have f7 := HO1.out.f 7 (by omega)
  have b8 := HO1.out.c 8 (by omega)
  have f8 := HO1.out.f 8 (by omega)
  have b9 := HO1.out.c 9 (by omega)
  have f9 := HO1.out.f 9 (by omega)
  have b10 := HO1.out.cx
  have f10 := HO1.out.f 10 (by omega)
  go_wp2
  try rw [Exit.noGoto_ret]
  refine bodyPost_ret (v := .tuple #[.agg #[.bool false, .bool false, .bool false, .bool false, .bool false, .bool false, .bool false, .bool false, .bool false, .bool false, .int .i64 0], .bool false]) (by simp [results, Try.results96, go_sem, b0, b1, b2, b3, b4, b5, b6, b7, b8, b9, b10]) rfl ⟨rfl, ?_⟩
  repeat (refine Below.setCell ?_ (by simp) _)
  exact HB1.out

/-- What outcomeOf tells. -/
def outV (F : Nat → Bool) (x : Int) : Value := .agg #[.bool (F 0), .bool (F 1), .bool (F 2), .bool (F 3), .bool (F 4), .bool (F 5), .bool (F 6), .bool (F 7), .bool (F 8), .bool (F 9), .int .i64 x]
theorem missTo_same {rs : List Ar} {k n : Nat} (h : partN k n = false ∨ 0 ≤ firstA rs n) : missTo rs k (n + 1) = missTo rs k n := by
  rw [missTo_succ]
  have h1 := missTo_ge rs k n
  have e : (partN k n && decide (firstA rs n < 0)) = false := by
    rcases h with h | h
    · rw [h]; rfl
    · rw [decide_eq_false (by omega), Bool.and_false]
  rw [e]
  split
  · simp; omega
  · rfl
theorem metBy_same {rs : List Ar} {k n : Nat} (h : partN k n = false ∨ firstA rs n < 0) (j : Nat) : metBy rs k (n + 1) j = metBy rs k n j := by
  rw [metBy_succ]
  have e : (partN k n && decide (firstA rs n = (j : Int))) = false := by
    rcases h with h | h
    · rw [h]; rfl
    · rw [decide_eq_false (by omega), Bool.and_false]
  rw [e, Bool.or_false]
theorem metBy_new {rs : List Ar} {k n i : Nat} (h : partN k n = true) (hf : firstA rs n = (i : Int)) (j : Nat) : metBy rs k (n + 1) j = if j = i then true else metBy rs k n j := by
  rw [metBy_succ, h, hf]
  by_cases e : j = i
  · subst e; simp
  · rw [if_neg e, decide_eq_false (by omega)]; simp

set_option maxHeartbeats 40000000 in
theorem outcome_yes (ds : List D) (b : Int) (rs : List Ar) (A : Option Addr) (m c : Nat) (w : World) (hr : SD w w.heap.size A m c ds) (As : Option Addr) (q cs : Nat) (hs : SA w w.heap.size As q cs rs) (hn : m ≤ 1048576) (hv : mArms ds b rs = true) {k : Nat} (hk : mMask ds = k) :
    Calls Try.prog 96 #[.agg #[.slice A m c, .int .i64 b], .slice As q cs] w (fun e w' => e = .returned (.tuple #[outV (metBy rs k (k + 1)) (missTo rs k (k + 1)), .bool true]) ∧ Below w.heap.size w w') := by
  have hl := hs.max
  have hl2 := hs.cap
  unfold maxLen at hl
  obtain rfl := hs.len
  have HF := Lib.hid ((FB.start hr b).alloc (.cells #[.bool false, .bool false, .bool false, .bool false, .bool false, .bool false, .bool false, .bool false, .bool false, .bool false, .int .i64 0] 119))
  have HSA : Hid (SA ((w.alloc (.cells #[.slice A m c, .int .i64 b] 25)).alloc (.cells #[.bool false, .bool false, .bool false, .bool false, .bool false, .bool false, .bool false, .bool false, .bool false, .bool false, .int .i64 0] 119)) w.heap.size As rs.length cs rs) := Lib.hid (hs.below HF.out.bel)
  have HO : Hid (OC ((w.alloc (.cells #[.slice A m c, .int .i64 b] 25)).alloc (.cells #[.bool false, .bool false, .bool false, .bool false, .bool false, .bool false, .bool false, .bool false, .bool false, .bool false, .int .i64 0] 119)) (w.heap.size + 1) (fun _ => false) 0) := Lib.hid (by have := oc_new (w.alloc (.cells #[.slice A m c, .int .i64 b] 25)) 0; simpa using this)
  have c0 := HF.out.c0
  have c1 := HF.out.c1
  clear hr hs
  have HV := Lib.hid hv
  have HNAT := Lib.hid (arms_nat hv)
  have h10 := mArms_len hv
  have hk4 := mMask_lt12 (vFlag_in (mArms_flag hv))
  have HR2 : Hid ((if mArms ds b rs then ((mMask ds : Nat) : Int) else 0) = (k : Int)) := Lib.hid (by rw [hv, if_pos rfl, hk])
  rw [hk] at hk4
  clear hv hk
  go_enter Try.func96, Try.ntmps96
  go_wp2
  go_step3
  go_wp2_with fail
  generalize ((w.alloc (.cells #[.slice A m c, .int .i64 b] 25)).alloc (.cells #[.bool false, .bool false, .bool false, .bool false, .bool false, .bool false, .bool false, .bool false, .bool false, .bool false, .int .i64 0] 119)) = w0 at *
  refine (armsMask_v ds b rs _ _ _ _ HF.out.sd _ _ _ (HSA.out.call HF.out.bel.size) hn HV.out HR2.out).mono ?_
  rintro e w1 ⟨rfl, hb⟩
  have HB1 := Lib.hid (HF.out.after hb)
  have HO1 := Lib.hid (HO.out.below hb)
  have HS1 := Lib.hid (HSA.out.below' hb HF.out.bel.size)
  clear hb HF HSA HO c0 c1
  go_wp2
  obtain ⟨G, hG⟩ : ∃ G, w1.heap.size = G := ⟨_, rfl⟩
  have HO2 : Hid (OC (w1.alloc (.cells #[.bool false, .bool false, .bool false, .bool false, .bool false, .bool false, .bool false, .bool false, .bool false, .bool false, .int .i64 (-1)] 119)) G (metBy rs k 0) (missTo rs k 0)) := Lib.hid (by rw [← hG]; exact (oc_new w1 (-1)).ext (fun j _ => rfl))
  have HOR2 : Hid (OC (w1.alloc (.cells #[.bool false, .bool false, .bool false, .bool false, .bool false, .bool false, .bool false, .bool false, .bool false, .bool false, .int .i64 (-1)] 119)) (w.heap.size + 1) (fun _ => false) 0) := Lib.hid (HO1.out.below ((Below.refl _ _).alloc (Nat.le_refl _) _))
  have HS2 : Hid (SA (w1.alloc (.cells #[.bool false, .bool false, .bool false, .bool false, .bool false, .bool false, .bool false, .bool false, .bool false, .bool false, .int .i64 (-1)] 119)) w.heap.size As rs.length cs rs) := Lib.hid (HS1.out.alloc HB1.out.size _)
  have HB2 : Hid (Below w.heap.size w (w1.alloc (.cells #[.bool false, .bool false, .bool false, .bool false, .bool false, .bool false, .bool false, .bool false, .bool false, .bool false, .int .i64 (-1)] 119))) := Lib.hid (HB1.out.alloc HB1.out.size _)
  have hGn : w.heap.size + 1 < G := by rw [← hG]; exact HO1.out.lt
  generalize hW : (w1.alloc (.cells #[.bool false, .bool false, .bool false, .bool false, .bool false, .bool false, .bool false, .bool false, .bool false, .bool false, .int .i64 (-1)] 119)) = w2 at *
  rw [hG]
  clear hG hW HO1 HS1 HB1
  go_step3
  go_wp2
  go_loopg [24] (k + 1) (fun g s wx => ∃ n : Nat, n + g = k + 1 ∧ s = .int .i64 n ∧ Hid (OC wx G (metBy rs k n) (missTo rs k n)) ∧ Hid (OC wx (w.heap.size + 1) (fun _ => false) 0) ∧ Hid (SA wx w.heap.size As rs.length cs rs) ∧ Hid (Below w.heap.size w wx))
  case atStart => exact ⟨0, by omega, rfl, HO2, HOR2, HS2, HB2⟩
  case round =>
    clear HO2 HOR2 HS2 HB2
    obtain ⟨n, hng, rfl, ho, hor, hsa, hbel⟩ := hrel
    cases gk with
    | zero =>
      obtain rfl : n = k + 1 := by omega
      have hle : ¬ (((k + 1 : Nat) : Int) < (k : Int) + 1) := by omega
      have b0 := ho.out.c 0 (by omega)
      have f0 := ho.out.f 0 (by omega)
      have b1 := ho.out.c 1 (by omega)
      have f1 := ho.out.f 1 (by omega)
      have b2 := ho.out.c 2 (by omega)
      have f2 := ho.out.f 2 (by omega)
      have b3 := ho.out.c 3 (by omega)
      have f3 := ho.out.f 3 (by omega)
      have b4 := ho.out.c 4 (by omega)
      have f4 := ho.out.f 4 (by omega)
      have b5 := ho.out.c 5 (by omega)
      have f5 := ho.out.f 5 (by omega)
      have b6 := ho.out.c 6 (by omega)
      have f6 := ho.out.f 6 (by omega)
      have b7 := ho.out.c 7 (by omega)
      have f7 := ho.out.f 7 (by omega)
      have b8 := ho.out.c 8 (by omega)
      have f8 := ho.out.f 8 (by omega)
      have b9 := ho.out.c 9 (by omega)
      have f9 := ho.out.f 9 (by omega)
      have b10 := ho.out.cx
      have f10 := ho.out.f 10 (by omega)
      have z0 := hor.out.c 0 (by omega)
      have y0 := hor.out.f 0 (by omega)
      have z1 := hor.out.c 1 (by omega)
      have y1 := hor.out.f 1 (by omega)
      have z2 := hor.out.c 2 (by omega)
      have y2 := hor.out.f 2 (by omega)
      have z3 := hor.out.c 3 (by omega)
      have y3 := hor.out.f 3 (by omega)
      have z4 := hor.out.c 4 (by omega)
      have y4 := hor.out.f 4 (by omega)
      have z5 := hor.out.c 5 (by omega)
      have y5 := hor.out.f 5 (by omega)
      have z6 := hor.out.c 6 (by omega)
      have y6 := hor.out.f 6 (by omega)
      have z7 := hor.out.c 7 (by omega)
      have y7 := hor.out.f 7 (by omega)
      have z8 := hor.out.c 8 (by omega)
      have y8 := hor.out.f 8 (by omega)
      have z9 := hor.out.c 9 (by omega)
      have y9 := hor.out.f 9 (by omega)
      have z10 := hor.out.cx
      have y10 := hor.out.f 10 (by omega)
      have hne : w.heap.size + 1 ≠ G := by omega
      have HB9 := Lib.hid hbel.out
      clear ho hor hsa hbel
      go_wp2
      try rw [Exit.noGoto_ret]
      refine bodyPost_ret (v := .tuple #[.agg #[.bool (metBy rs k (k + 1) 0), .bool (metBy rs k (k + 1) 1), .bool (metBy rs k (k + 1) 2), .bool (metBy rs k (k + 1) 3), .bool (metBy rs k (k + 1) 4), .bool (metBy rs k (k + 1) 5), .bool (metBy rs k (k + 1) 6), .bool (metBy rs k (k + 1) 7), .bool (metBy rs k (k + 1) 8), .bool (metBy rs k (k + 1) 9), .int .i64 (missTo rs k (k + 1))], .bool true]) (by simp [results, Try.results96, go_sem, z0, z1, z2, z3, z4, z5, z6, z7, z8, z9, z10]) rfl ⟨rfl, ?_⟩
      repeat (refine Below.setCell ?_ (by simp) _)
      exact HB9.out
    | succ g =>
      have hnk : n ≤ k := by omega
      have hn4 : n < 4096 := by omega
      have hlt : ((n : Nat) : Int) < (k : Int) + 1 := by omega
      obtain ⟨u, hu⟩ : ∃ u, decide (nl n k = 0) = u := ⟨_, rfl⟩
      have HU := Lib.hid hu
      have HPN : Hid (partN k n = u) := Lib.hid hu
      clear hu
      cases u
      · go_wp2_with (go_at_call 84; refine (bsHas_v k n _ hk4 hn4 HU.out).mono ?_; rintro e w3 ⟨rfl, rfl⟩)
        go_roundg g
        case measure => omega
        case rel => exact ⟨n + 1, by omega, by go_num, Lib.hid (by rw [missTo_same (.inl HPN.out)]; exact ho.out.ext (fun j _ => metBy_same (.inl HPN.out) j)), hor, hsa, hbel⟩
      · have HLAST : Hid (∀ wy : World, True) := Lib.hid (fun _ => trivial)
        go_wp2_with (go_at_call 84; refine (bsHas_v k n _ hk4 hn4 HU.out).mono ?_; rintro e w3 ⟨rfl, rfl⟩)
        rename World => wo
        have HO3 := ho
        have HR3 := hor
        have HS3 := hsa
        have HB3 := hbel
        clear ho hor hsa hbel
        go_loopg [33] rs.length (fun g2 s wx => ∃ i : Nat, i + g2 = rs.length ∧ s = .int .i64 i ∧ Hid (noTo (matchA n) rs i) ∧ Hid (OC wx G (metBy rs k n) (missTo rs k n)) ∧ Hid (OC wx (w.heap.size + 1) (fun _ => false) 0) ∧ Hid (SA wx w.heap.size As rs.length cs rs) ∧ Hid (Below w.heap.size w wx))
        case atStart => exact ⟨0, by omega, rfl, Lib.hid (noTo_zero _ _), HO3, HR3, HS3, HB3⟩
        case round =>
          clear HO3 HR3 HS3 HB3
          obtain ⟨i, hig, rfl, hok, ho, hor, hsa, hbel⟩ := hrel
          cases gk with
          | zero =>
            obtain rfl : i = rs.length := by omega
            have HF1 : Hid (firstA rs n = -1) := Lib.hid (fidx_none hok.out)
            have HMX : Hid (missTo rs k (n + 1) = if missTo rs k n < 0 then (n : Int) else missTo rs k n) := Lib.hid (by rw [missTo_succ, HPN.out, HF1.out]; simp)
            have HMB : Hid (∀ j, metBy rs k (n + 1) j = metBy rs k n j) := Lib.hid (fun j => metBy_same (.inr (by rw [HF1.out]; decide)) j)
            have b10 := ho.out.cx
            have f10 := ho.out.f 10 (by omega)
            obtain ⟨x, hx⟩ : ∃ x, missTo rs k n = x := ⟨_, rfl⟩
            rw [hx] at b10
            have HX := Lib.hid hx
            clear hx
            by_cases h0 : x < 0
            · go_wp2
              go_roundg g
              case measure => omega
              case rel => exact ⟨n + 1, by omega, by go_num, Lib.hid (by rw [HMX.out, HX.out, if_pos h0]; exact (ho.out.setx n).ext (fun j _ => HMB.out j)), Lib.hid (hor.out.setO (by simp; omega) _), Lib.hid (hsa.out.keep fun r => Rd.setCell r (by simp; omega) _), Lib.hid (hbel.out.setCell (by simp; omega) _)⟩
            · go_wp2
              go_roundg g
              case measure => omega
              case rel => exact ⟨n + 1, by omega, by go_num, Lib.hid (by rw [HMX.out, HX.out, if_neg (by omega), ← HX.out]; exact ho.out.ext (fun j _ => HMB.out j)), hor, hsa, hbel⟩
          | succ g2 =>
            have hil : i < rs.length := by omega
            have hil2 : (i : Int) < (rs.length : Int) := by omega
            obtain ⟨bb, o, hA, hbb, d1, d2⟩ := hsa.out.at_ hil
            subst hA
            obtain ⟨x, y, h1, h2, hx4, hy4⟩ := HNAT.out _ (List.getElem_mem hil)
            have HP0 := Lib.hid (matchA_is h1 h2 n)
            rw [h1] at d1
            rw [h2] at d2
            clear h1 h2
            obtain ⟨v, hv⟩ : ∃ v, matchN x y n = v := ⟨_, rfl⟩
            have HV2 := Lib.hid hv
            clear hv
            have hb4 : Below wr.heap.size wr (wr.alloc (.cells #[.int .i64 (x : Int), .int .i64 (y : Int)] 40)) := (Below.refl _ _).alloc (Nat.le_refl _) _
            have HO4 := Lib.hid (ho.out.below hb4)
            have HR4 := Lib.hid (hor.out.below hb4)
            have HS4 : Hid (SA (wr.alloc (.cells #[.int .i64 (x : Int), .int .i64 (y : Int)] 40)) w.heap.size (some ⟨bb, o, none⟩) rs.length cs rs) := Lib.hid (hsa.out.alloc hbel.out.size _)
            have HB4 : Hid (Below w.heap.size w (wr.alloc (.cells #[.int .i64 (x : Int), .int .i64 (y : Int)] 40))) := Lib.hid (hbel.out.alloc hbel.out.size _)
            clear hb4 ho hor hsa hbel
            go_wp2_with fail
            generalize (wr.alloc (.cells #[.int .i64 (x : Int), .int .i64 (y : Int)] 40)) = w4 at *
            refine (armMatch_v x y n _ hx4 hy4 hn4 HV2.out).mono ?_
            rintro e w5 ⟨rfl, hb⟩
            have HO5 := Lib.hid (HO4.out.below hb)
            have HR5 := Lib.hid (HR4.out.below hb)
            have HS5 := Lib.hid (HS4.out.below' hb HB4.out.size)
            have HB5 : Hid (Below w.heap.size w w5) := Lib.hid (HB4.out.trans (hb.mono HB4.out.size))
            clear hb d1 d2 HO4 HR4 HS4 HB4
            cases v
            · go_wp2
              go_roundg g2
              case measure => omega
              case rel => exact ⟨i + 1, by omega, by go_num, Lib.hid (noTo_succ hok.out hil (by rw [HP0.out]; exact HV2.out)), HO5, HR5, HS5, HB5⟩
            · have HF1 : Hid (firstA rs n = (i : Int)) := Lib.hid (fidx_some hok.out hil (by rw [HP0.out]; exact HV2.out))
              have hi10 : i < 10 := by omega
              have hi11 : (i : Int) < 10 := by omega
              have bi := HO5.out.c i hi10
              have fi := HO5.out.f i (by omega)
              go_wp2
              go_roundg g
              case measure => omega
              case rel => exact ⟨n + 1, by omega, by go_num, Lib.hid (by rw [missTo_same (.inr (by rw [HF1.out]; omega))]; exact HO5.out.set hi10 (fun j _ => metBy_new HPN.out HF1.out j)), Lib.hid (HR5.out.setO (by simp; omega) _), Lib.hid (HS5.out.keep fun r => Rd.setCell r (by simp; omega) _), Lib.hid (HB5.out.setCell (by simp; omega) _)⟩

end Go.Proofs.Ytkholjcmaebaaaa
