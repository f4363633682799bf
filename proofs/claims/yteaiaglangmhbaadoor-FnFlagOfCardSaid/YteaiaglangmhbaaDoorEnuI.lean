import Derived.RangeFuncBox
import Derived.RangeFuncNested
import Derived.Test.YteaiaglangmhbaaDoorEnuP
import Derived.Test.YteaiaglangmhbaaDoorBaseC
import Derived.Test.YteaiaglangmhbaaDoorBaseB
import Derived.Test.YteaiaglangmhbaaDoorCel
import Derived.Test.YteaiaglangmhbaaDoorBaseE
import Derived.Test.YteaiaglangmhbaaDoorEnuT
import Derived.Deep.DeepCutAuto
namespace Go.Proofs.YteaiaglangmhbaaDoor
open Go.RowKit
set_option linter.unusedVariables false
set_option linter.unusedSimpArgs false
set_option maxRecDepth 100000

theorem box2_cell {W : World} {B : Nat} {s : ByteArray} {x : Int} (h : W.heap[B]? = some (.cells #[.string s, .int .i64 x] 53 (0, 0))) : W.cell? ⟨B, 0, none⟩ = some (.string s) := by simp [World.cell?, h]
set_option maxHeartbeats 16000000 in
theorem implEnum_any (ds : List D) (b : Int) (A : Option Addr) (m c : Nat) (w : World) (hr : SD w w.heap.size A m c ds) (hn : m ≤ 1048576) (hT : TabAt w) (hG : 1 < w.heap.size) :
    Calls Tryd.prog 9 #[.agg #[.slice A m c, .int .i64 b]] w (EnumE (mEnum ds b) w) := by
  obtain rfl := hr.len
  have HR := Lib.hid hr
  have HT0 := Lib.hid hT
  obtain ⟨v, hv⟩ : ∃ v, vFlag ds b = v := ⟨_, rfl⟩
  have HV := Lib.hid hv
  obtain ⟨w1, hw⟩ : ∃ W : World, W = (w.alloc (.cells #[.slice A ds.length c, .int .i64 b] 31)).alloc (.cells #[.slice none 0 0] 28) := ⟨_, rfl⟩
  have hb : Below w.heap.size w w1 := by rw [hw]; exact ((Below.refl _ _).alloc (Nat.le_refl _) _).alloc (by simp) _
  have hz1 : w.heap.size + 2 ≤ w1.heap.size := by rw [hw]; simp
  have c0_1 : w1.cell? ⟨w.heap.size, 0, none⟩ = some (.slice A ds.length c) := by rw [hw]; simp [go_sem]
  have c1_1 : w1.cell? ⟨w.heap.size, 1, none⟩ = some (.int .i64 b) := by rw [hw]; simp [go_sem]
  have z0_1 : w1.cell? ⟨w.heap.size + 1, 0, none⟩ = some (.slice none 0 0) := by rw [hw]; simp [go_sem]
  have zf_1 : w1.frozen? ⟨w.heap.size + 1, 0, none⟩ = false := by rw [hw]; simp [go_sem]
  have HB1 := Lib.hid hb
  have lf0 : ((w.alloc (.cells #[.slice A ds.length c, .int .i64 b] 31)).alloc (.cells #[.slice none 0 0] 28)).cell? ⟨w.heap.size, 0, none⟩ = some (.slice A ds.length c) := by rw [← hw]; exact c0_1
  have lf1 : ((w.alloc (.cells #[.slice A ds.length c, .int .i64 b] 31)).alloc (.cells #[.slice none 0 0] 28)).cell? ⟨w.heap.size, 1, none⟩ = some (.int .i64 b) := by rw [← hw]; exact c1_1
  have HW := Lib.hid hw.symm
  clear hr hw hb hv hT
  go_enter Tryd.func9, Tryd.ntmps9
  go_wp2_with fail
  rw [HW.out]
  clear HW lf0 lf1
  refine (implVF_v ds b _ _ _ _ ((HR.out.below HB1.out).call HB1.out.size) hn HV.out).mono ?_
  rintro e w2 ⟨rfl, hb⟩
  have HB2 : Hid (Below w.heap.size w w2) := Lib.hid (HB1.out.trans (hb.mono HB1.out.size))
  have c0_2 := keep1 hb c0_1
  have z0_2 := keep1 hb z0_1
  have zf_2 : w2.frozen? ⟨w.heap.size + 1, 0, none⟩ = false := (hb.frozen (p := ⟨w.heap.size + 1, 0, none⟩) hz1).trans zf_1
  have hz2 : w.heap.size + 2 ≤ w2.heap.size := Nat.le_trans hz1 hb.size
  clear hb c0_1 c1_1 z0_1 zf_1 HB1 hz1
  cases v
  · have HM : Hid (mEnum ds b = []) := Lib.hid (by unfold mEnum; rw [HV.out]; rfl)
    go_wp2
    refine bodyPost_ret (v := .agg #[.slice none 0 0]) (by simp [results, Tryd.results9, go_sem, z0_2]) rfl ?_
    rw [HM.out]
    exact ⟨none, 0, rfl, World.ownsRow_nil _ _ _ _, HB2.out.setCell (by simp) _⟩
  have HM : Hid (mEnum ds b = mEnu ds) := Lib.hid (by unfold mEnum; rw [HV.out, if_pos rfl])
  have HIN : Hid (∀ d ∈ ds, inR d) := Lib.hid (vFlag_in HV.out)
  have hbA : Below w2.heap.size w2 (w2.alloc (.cells #[.slice none 0 0] 28)) := (Below.refl _ _).alloc (Nat.le_refl _) _
  have c0_3 := keep1 hbA c0_2
  have HBX := Lib.hid (Boxed.new w2 28 (.slice none 0 0))
  have HB3 := Lib.hid hbA
  have HR2 : Hid (SD w2 w2.heap.size A ds.length c ds) := Lib.hid ((HR.out.below HB2.out).call HB2.out.size)
  have h2 : 1 < w2.heap.size := by omega
  have HT2 : Hid (TabAt w2) := Lib.hid (HT0.out.below HB2.out hG)
  have Z2 := Lib.hid z0_2
  have ZF2 := Lib.hid zf_2
  clear hbA z0_2 zf_2 HV HT0
  go_wp2
  clear c0_3 c0_2
  go_loopw [14] (fun a wr => ∃ k : Nat, k ≤ ds.length ∧ a = .int .i64 k ∧ ∃ v, Hid (Boxed wr w2.heap.size 28 v) ∧ Hid (wr.ownsRow w2.heap.size 53 2 v (enuTo ds k).length (flat (enuTo ds k))) ∧ Hid (Below w2.heap.size w2 wr)) (fun a _ => ds.length - (intOf a).toNat)
  case atStart => exact ⟨0, Nat.zero_le _, rfl, _, HBX, Lib.hid (World.ownsRow_nil _ _ _ _), HB3⟩
  case round =>
    clear HBX HB3
    obtain ⟨k, hk, rfl, v, hbx, hown, hbel⟩ := hrel
    have hzr := hbx.out.lt
    by_cases hlt : k < ds.length
    · obtain ⟨b0, o, hA, hb0, x1, x2⟩ := (HR2.out.below hbel.out).at_ hlt
      subst hA
      have hi1 : (k : Int) < (ds.length : Int) := by omega
      have hi0 : (0 : Int) ≤ (k : Int) := by omega
      have HI := Lib.hid (HIN.out _ (List.getElem_mem hlt))
      obtain ⟨x, hx⟩ : ∃ x : Nat, ds[k].val = x := ⟨ds[k].val.toNat, (Int.toNat_of_nonneg HI.out.1).symm⟩
      have hx4 : x < 4096 := by have := HI.out.2; omega
      have HT := Lib.hid (enuTo_succ ds k hlt)
      have HL := Lib.hid (Nat.le_trans (enuTo_len ds k) (by omega : k ≤ 2000000))
      have HC : Hid (oneB ds[k] = decide (popc x = 1)) := Lib.hid (by unfold oneB; rw [hx, Int.toNat_natCast])
      have HX := Lib.hid hx
      rw [hx] at x2
      clear hx
      have HNE : Hid (v.ownBlock ≠ some wr.heap.size) := Lib.hid (fun e => by have := (hown.out.lt _ e).2; omega)
      have l0 : (wr.alloc (.cells #[.string ds[k].name, .int .i64 x] 53)).cell? ⟨wr.heap.size, 0, none⟩ = some (.string ds[k].name) := by simp [go_sem]
      have l1 : (wr.alloc (.cells #[.string ds[k].name, .int .i64 x] 53)).cell? ⟨wr.heap.size, 1, none⟩ = some (.int .i64 x) := by simp [go_sem]
      obtain ⟨p, hp⟩ : ∃ p, popc x = p := ⟨_, rfl⟩
      have HP := Lib.hid hp
      by_cases hp1 : p = 1
      · subst hp1
        obtain ⟨i, hi12, hx2i⟩ := popc_one 12 x (by omega) hp
        have HTT : Hid (enuTo ds (k + 1) = enuTo ds k ++ [⟨ds[k].name, (i : Int)⟩]) := Lib.hid (by rw [HT.out, HC.out, decide_eq_true hp, if_pos rfl]; unfold idxD; rw [HX.out, Int.toNat_natCast, hx2i, log_pow])
        have tz_x : ∀ W, TabAt W → Calls Tryd.prog 35 #[.int .u64 (x : Int)] W fun e w' => e = .returned (.int .i64 i) ∧ W = w' := fun W hW => by rw [hx2i]; exact tz_v i W hi12 hW
        clear hp hx2i
        go_wp2_with (go_at_call 34; refine (ones_v x _ hx4 HP.out).mono ?_; rintro e w' ⟨rfl, rfl⟩)
        refine wp_region_held_drew (S := fun w' => w'.cell? ⟨wr.heap.size, 0, none⟩ = some (.string ds[k].name)) (by kernel_rfl) l0 (fun hHeld => ?_)
        obtain ⟨V, hV⟩ : ∃ V : World, V = (wr.alloc (.cells #[.string ds[k].name, .int .i64 x] 53)).drew := ⟨_, rfl⟩
        have hbV : Below w2.heap.size wr V := by rw [hV]; exact ((Below.refl _ wr).alloc (Nat.le_of_lt hzr) _).drew
        have hbox : Boxed V w2.heap.size 28 v := by rw [hV]; exact hbx.out.alloc _
        have hrow : V.ownsRow w2.heap.size 53 2 v (enuTo ds k).length (flat (enuTo ds k)) := by rw [hV]; exact hown.out.alloc _
        have hz : w2.heap.size ≤ V.heap.size := by rw [hV]; show w2.heap.size ≤ (wr.alloc _).heap.size; rw [World.size_alloc]; omega
        have bX : V.heap[wr.heap.size]? = some (.cells #[.string ds[k].name, .int .i64 x] 53 (0, 0)) := by rw [hV]; exact World.alloc_heap_new wr _
        have HTV : TabAt V := HT2.out.below (hbel.out.trans hbV) h2
        have cS := hbox.cell
        rw [← hV] at hHeld ⊢
        clear hV l0 l1
        refine wpAnyH_take (i := 0) (v := ?_) rfl (by kernel_rfl) (by kernel_rfl) (by kernel_rfl) (fun _ _ _ h => h) (Or.inl ⟨by kernel_rfl, ?_⟩) hHeld ?_
        rotate_left
        · intro wz hSw
          try dsimp only at hSw
          first
          | (go_simp; done)
          | (go_simp; with_reducible rfl)
        try simp only [Act.put, List.setIfInBounds_toArray, List.set_cons_zero, List.set_cons_succ]
        refine wpAnyH_take (i := 2) (v := ?_) rfl (by kernel_rfl) (by kernel_rfl) (by kernel_rfl) (fun _ _ _ h => h) (Or.inl ⟨by kernel_rfl, ?_⟩) hHeld ?_
        rotate_left
        · intro wz hSw
          try dsimp only at hSw
          first
          | (go_simp; done)
          | (go_simp; with_reducible rfl)
        try simp only [Act.put, List.setIfInBounds_toArray, List.set_cons_zero, List.set_cons_succ]
        refine wpAnyH_take (i := 3) (v := ?_) rfl (by kernel_rfl) (by kernel_rfl) (by kernel_rfl) (fun _ _ _ h => h) (Or.inl ⟨by kernel_rfl, ?_⟩) hHeld ?_
        rotate_left
        · intro wz hSw
          try dsimp only at hSw
          first
          | (go_simp; done)
          | (go_simp; with_reducible rfl)
        try simp only [Act.put, List.setIfInBounds_toArray, List.set_cons_zero, List.set_cons_succ]
        refine wpAnyH_take (i := 4) (v := ?_) rfl (by kernel_rfl) (by kernel_rfl) (by kernel_rfl) (fun _ _ _ h => h) (Or.inl ⟨by kernel_rfl, ?_⟩) hHeld ?_
        rotate_left
        · intro wz hSw
          try dsimp only at hSw
          first
          | (go_simp; done)
          | (go_simp; with_reducible rfl)
        try simp only [Act.put, List.setIfInBounds_toArray, List.set_cons_zero, List.set_cons_succ]
        refine wpAnyH_ready (rs := [1, 5]) (by kernel_rfl) (by simp) ?_
        refine AllReadyH.cons rfl (fun K hK => ?_) (AllReadyH.cons rfl (fun K hK => ?_) AllReadyH.nil)
        · skip
          go_simp
          refine hK.out _ _ hHeld (fun hHeld => ?_)
          clear hK K
          try simp only [Act.put, List.setIfInBounds_toArray, List.set_cons_zero, List.set_cons_succ]
          refine wpAnyH_ready (rs := [5]) (by kernel_rfl) (by simp) ?_
          refine AllReadyH.cons rfl (fun K hK => ?_) AllReadyH.nil
          go_simp
          refine (tz_x V HTV).mono ?_
          rintro e V1 ⟨rfl, hw⟩
          rw [← hw]
          clear hw V1
          go_simp
          refine hK.out _ _ hHeld (fun hHeld => ?_)
          clear hK K
          try simp only [Act.put, List.setIfInBounds_toArray, List.set_cons_zero, List.set_cons_succ]
          refine wpAnyH_take (i := 6) (v := ?_) rfl (by kernel_rfl) (by kernel_rfl) (by kernel_rfl) (fun _ _ _ h => h) (Or.inl ⟨by kernel_rfl, ?_⟩) hHeld ?_
          rotate_left
          · intro wz hSw
            try dsimp only at hSw
            first
            | (go_simp; done)
            | (go_simp; with_reducible rfl)
          try simp only [Act.put, List.setIfInBounds_toArray, List.set_cons_zero, List.set_cons_succ]
          refine wpAnyH_ready (rs := [7]) (by kernel_rfl) (by simp) ?_
          refine AllReadyH.cons rfl (fun K hK => ?_) AllReadyH.nil
          go_simp
          have hbA := (Below.refl V.heap.size V).alloc (Nat.le_refl _) (.cells #[.string ds[k].name, .int .i64 i] 53)
          refine hK.out _ _ (keep1 hbA hHeld) (fun hHeld => ?_)
          clear hK K
          try simp only [Act.put, List.setIfInBounds_toArray, List.set_cons_zero, List.set_cons_succ]
          refine wpAnyH_ready (rs := [8]) (by kernel_rfl) (by simp) ?_
          refine AllReadyH.cons rfl (fun K hK => ?_) AllReadyH.nil
          refine step_app_D rfl _ _ rfl w2.heap.size v _ _ rfl (hrow.alloc _) _ _ _ _ rfl (World.alloc_heap_new _ _) (by have := HL.out; omega) (by simp; omega) ?_
          intro v' w5 ho hg
          obtain ⟨A5, c5, rfl⟩ := own_form ho
          obtain ⟨hv2, hv3, hr3, hk3, hb3⟩ := hbox.appended (by decide) hrow hz (Nat.le_refl _) ho hg
          have bX2 := (hg.block wr.heap.size (by have := (Array.getElem?_eq_some_iff.1 bX).1; simp; omega) (fun e => HNE.out e.symm)).trans ((Below.heap_alloc _ _ _ (Array.getElem?_eq_some_iff.1 bX).1).trans bX)
          have cS2 := hv2.cell
          have fS := hv2.frozen
          refine hK.out _ _ (box2_cell bX2) (fun hHeld => ?_)
          clear hK K
          try simp only [Act.put, List.setIfInBounds_toArray, List.set_cons_zero, List.set_cons_succ]
          refine wpAnyH_take (i := 9) (v := ?_) rfl (by kernel_rfl) (by kernel_rfl) (by kernel_rfl) (fun _ _ _ h => h) (Or.inl ⟨by kernel_rfl, ?_⟩) hHeld ?_
          rotate_left
          · intro wz hSw
            try dsimp only at hSw
            first
            | (go_simp; done)
            | (go_simp; with_reducible rfl)
          try simp only [Act.put, List.setIfInBounds_toArray, List.set_cons_zero, List.set_cons_succ]
          refine wpAnyH_ready (rs := [10]) (by kernel_rfl) (by simp) ?_
          refine AllReadyH.cons rfl (fun K hK => ?_) AllReadyH.nil
          go_simp
          have bX3 := ((grownBy_setCell' w5 w2.heap.size (.slice A5 ((enuTo ds k).length + 1) c5)).block wr.heap.size (Array.getElem?_eq_some_iff.1 bX2).1 (fun e => by have e2 := Option.some.inj e; omega)).trans bX2
          refine hK.out _ _ (box2_cell bX3) (fun hHeld => ?_)
          clear hK K
          try simp only [Act.put, List.setIfInBounds_toArray, List.set_cons_zero, List.set_cons_succ]
          refine wpAnyH_done (by kernel_rfl) ?_ _
          try go_simp
          have HO5 := Lib.hid hr3
          have BX5 := Lib.hid hv3
          have B5 := Lib.hid (hbV.trans hb3)
          obtain ⟨w6, hw6⟩ : ∃ W : World, W = w5.setCell ⟨w2.heap.size, 0, none⟩ (.slice A5 ((enuTo ds k).length + 1) c5) := ⟨_, rfl⟩
          rw [← hw6] at HO5 BX5 B5 ⊢
          clear hw6 hv2 hv3 hr3 hk3 hb3 bX2 bX3 cS2 fS hg ho hHeld bX hbox hrow hz hbV cS
          go_wp2
          go_roundw
          case rel => exact ⟨k + 1, by omega, by go_num, _, BX5, Lib.hid (by rw [HTT.out, List.length_append]; simpa [flat, encD] using HO5.out), Lib.hid (hbel.out.trans B5.out)⟩
          case measure => simp [intOf]; omega
        · skip
          go_simp
          refine (tz_x V HTV).mono ?_
          rintro e V1 ⟨rfl, hw⟩
          rw [← hw]
          clear hw V1
          go_simp
          refine hK.out _ _ hHeld (fun hHeld => ?_)
          clear hK K
          try simp only [Act.put, List.setIfInBounds_toArray, List.set_cons_zero, List.set_cons_succ]
          refine wpAnyH_take (i := 6) (v := ?_) rfl (by kernel_rfl) (by kernel_rfl) (by kernel_rfl) (fun _ _ _ h => h) (Or.inl ⟨by kernel_rfl, ?_⟩) hHeld ?_
          rotate_left
          · intro wz hSw
            try dsimp only at hSw
            first
            | (go_simp; done)
            | (go_simp; with_reducible rfl)
          try simp only [Act.put, List.setIfInBounds_toArray, List.set_cons_zero, List.set_cons_succ]
          refine wpAnyH_ready (rs := [1, 7]) (by kernel_rfl) (by simp) ?_
          refine AllReadyH.cons rfl (fun K hK => ?_) (AllReadyH.cons rfl (fun K hK => ?_) AllReadyH.nil)
          · skip
            go_simp
            refine hK.out _ _ hHeld (fun hHeld => ?_)
            clear hK K
            try simp only [Act.put, List.setIfInBounds_toArray, List.set_cons_zero, List.set_cons_succ]
            refine wpAnyH_ready (rs := [7]) (by kernel_rfl) (by simp) ?_
            refine AllReadyH.cons rfl (fun K hK => ?_) AllReadyH.nil
            go_simp
            have hbA := (Below.refl V.heap.size V).alloc (Nat.le_refl _) (.cells #[.string ds[k].name, .int .i64 i] 53)
            refine hK.out _ _ (keep1 hbA hHeld) (fun hHeld => ?_)
            clear hK K
            try simp only [Act.put, List.setIfInBounds_toArray, List.set_cons_zero, List.set_cons_succ]
            refine wpAnyH_ready (rs := [8]) (by kernel_rfl) (by simp) ?_
            refine AllReadyH.cons rfl (fun K hK => ?_) AllReadyH.nil
            refine step_app_D rfl _ _ rfl w2.heap.size v _ _ rfl (hrow.alloc _) _ _ _ _ rfl (World.alloc_heap_new _ _) (by have := HL.out; omega) (by simp; omega) ?_
            intro v' w5 ho hg
            obtain ⟨A5, c5, rfl⟩ := own_form ho
            obtain ⟨hv2, hv3, hr3, hk3, hb3⟩ := hbox.appended (by decide) hrow hz (Nat.le_refl _) ho hg
            have bX2 := (hg.block wr.heap.size (by have := (Array.getElem?_eq_some_iff.1 bX).1; simp; omega) (fun e => HNE.out e.symm)).trans ((Below.heap_alloc _ _ _ (Array.getElem?_eq_some_iff.1 bX).1).trans bX)
            have cS2 := hv2.cell
            have fS := hv2.frozen
            refine hK.out _ _ (box2_cell bX2) (fun hHeld => ?_)
            clear hK K
            try simp only [Act.put, List.setIfInBounds_toArray, List.set_cons_zero, List.set_cons_succ]
            refine wpAnyH_take (i := 9) (v := ?_) rfl (by kernel_rfl) (by kernel_rfl) (by kernel_rfl) (fun _ _ _ h => h) (Or.inl ⟨by kernel_rfl, ?_⟩) hHeld ?_
            rotate_left
            · intro wz hSw
              try dsimp only at hSw
              first
              | (go_simp; done)
              | (go_simp; with_reducible rfl)
            try simp only [Act.put, List.setIfInBounds_toArray, List.set_cons_zero, List.set_cons_succ]
            refine wpAnyH_ready (rs := [10]) (by kernel_rfl) (by simp) ?_
            refine AllReadyH.cons rfl (fun K hK => ?_) AllReadyH.nil
            go_simp
            have bX3 := ((grownBy_setCell' w5 w2.heap.size (.slice A5 ((enuTo ds k).length + 1) c5)).block wr.heap.size (Array.getElem?_eq_some_iff.1 bX2).1 (fun e => by have e2 := Option.some.inj e; omega)).trans bX2
            refine hK.out _ _ (box2_cell bX3) (fun hHeld => ?_)
            clear hK K
            try simp only [Act.put, List.setIfInBounds_toArray, List.set_cons_zero, List.set_cons_succ]
            refine wpAnyH_done (by kernel_rfl) ?_ _
            try go_simp
            have HO5 := Lib.hid hr3
            have BX5 := Lib.hid hv3
            have B5 := Lib.hid (hbV.trans hb3)
            obtain ⟨w6, hw6⟩ : ∃ W : World, W = w5.setCell ⟨w2.heap.size, 0, none⟩ (.slice A5 ((enuTo ds k).length + 1) c5) := ⟨_, rfl⟩
            rw [← hw6] at HO5 BX5 B5 ⊢
            clear hw6 hv2 hv3 hr3 hk3 hb3 bX2 bX3 cS2 fS hg ho hHeld bX hbox hrow hz hbV cS
            go_wp2
            go_roundw
            case rel => exact ⟨k + 1, by omega, by go_num, _, BX5, Lib.hid (by rw [HTT.out, List.length_append]; simpa [flat, encD] using HO5.out), Lib.hid (hbel.out.trans B5.out)⟩
            case measure => simp [intOf]; omega
          · skip
            go_simp
            have hbA := (Below.refl V.heap.size V).alloc (Nat.le_refl _) (.cells #[.string ds[k].name, .int .i64 i] 53)
            refine hK.out _ _ (keep1 hbA hHeld) (fun hHeld => ?_)
            clear hK K
            try simp only [Act.put, List.setIfInBounds_toArray, List.set_cons_zero, List.set_cons_succ]
            refine wpAnyH_ready (rs := [1]) (by kernel_rfl) (by simp) ?_
            refine AllReadyH.cons rfl (fun K hK => ?_) AllReadyH.nil
            have cA := keep1 hbA cS
            go_simp
            refine hK.out _ _ hHeld (fun hHeld => ?_)
            clear hK K
            try simp only [Act.put, List.setIfInBounds_toArray, List.set_cons_zero, List.set_cons_succ]
            refine wpAnyH_ready (rs := [8]) (by kernel_rfl) (by simp) ?_
            refine AllReadyH.cons rfl (fun K hK => ?_) AllReadyH.nil
            refine step_app_D rfl _ _ rfl w2.heap.size v _ _ rfl (hrow.alloc _) _ _ _ _ rfl (World.alloc_heap_new _ _) (by have := HL.out; omega) (by simp; omega) ?_
            intro v' w5 ho hg
            obtain ⟨A5, c5, rfl⟩ := own_form ho
            obtain ⟨hv2, hv3, hr3, hk3, hb3⟩ := hbox.appended (by decide) hrow hz (Nat.le_refl _) ho hg
            have bX2 := (hg.block wr.heap.size (by have := (Array.getElem?_eq_some_iff.1 bX).1; simp; omega) (fun e => HNE.out e.symm)).trans ((Below.heap_alloc _ _ _ (Array.getElem?_eq_some_iff.1 bX).1).trans bX)
            have cS2 := hv2.cell
            have fS := hv2.frozen
            refine hK.out _ _ (box2_cell bX2) (fun hHeld => ?_)
            clear hK K
            try simp only [Act.put, List.setIfInBounds_toArray, List.set_cons_zero, List.set_cons_succ]
            refine wpAnyH_take (i := 9) (v := ?_) rfl (by kernel_rfl) (by kernel_rfl) (by kernel_rfl) (fun _ _ _ h => h) (Or.inl ⟨by kernel_rfl, ?_⟩) hHeld ?_
            rotate_left
            · intro wz hSw
              try dsimp only at hSw
              first
              | (go_simp; done)
              | (go_simp; with_reducible rfl)
            try simp only [Act.put, List.setIfInBounds_toArray, List.set_cons_zero, List.set_cons_succ]
            refine wpAnyH_ready (rs := [10]) (by kernel_rfl) (by simp) ?_
            refine AllReadyH.cons rfl (fun K hK => ?_) AllReadyH.nil
            go_simp
            have bX3 := ((grownBy_setCell' w5 w2.heap.size (.slice A5 ((enuTo ds k).length + 1) c5)).block wr.heap.size (Array.getElem?_eq_some_iff.1 bX2).1 (fun e => by have e2 := Option.some.inj e; omega)).trans bX2
            refine hK.out _ _ (box2_cell bX3) (fun hHeld => ?_)
            clear hK K
            try simp only [Act.put, List.setIfInBounds_toArray, List.set_cons_zero, List.set_cons_succ]
            refine wpAnyH_done (by kernel_rfl) ?_ _
            try go_simp
            have HO5 := Lib.hid hr3
            have BX5 := Lib.hid hv3
            have B5 := Lib.hid (hbV.trans hb3)
            obtain ⟨w6, hw6⟩ : ∃ W : World, W = w5.setCell ⟨w2.heap.size, 0, none⟩ (.slice A5 ((enuTo ds k).length + 1) c5) := ⟨_, rfl⟩
            rw [← hw6] at HO5 BX5 B5 ⊢
            clear hw6 hv2 hv3 hr3 hk3 hb3 bX2 bX3 cS2 fS hg ho hHeld bX hbox hrow hz hbV cS
            go_wp2
            go_roundw
            case rel => exact ⟨k + 1, by omega, by go_num, _, BX5, Lib.hid (by rw [HTT.out, List.length_append]; simpa [flat, encD] using HO5.out), Lib.hid (hbel.out.trans B5.out)⟩
            case measure => simp [intOf]; omega
      · have hp2 : ((p : Int) == 1) = false := by rw [beq_eq_false_iff_ne]; omega
        have HTT : Hid (enuTo ds (k + 1) = enuTo ds k) := Lib.hid (by rw [HT.out, HC.out, hp, decide_eq_false hp1]; simp)
        have HBX5 := Lib.hid (hbx.out.alloc (.cells #[.string ds[k].name, .int .i64 x] 53))
        have HO5 := Lib.hid (hown.out.alloc (.cells #[.string ds[k].name, .int .i64 x] 53))
        have HB5 := Lib.hid (hbel.out.trans ((Below.refl _ wr).alloc (Nat.le_of_lt hzr) (.cells #[.string ds[k].name, .int .i64 x] 53)))
        clear hp hp1
        go_wp2_with (go_at_call 34; refine (ones_v x _ hx4 HP.out).mono ?_; rintro e w' ⟨rfl, rfl⟩)
        go_roundw
        case rel => exact ⟨k + 1, by omega, by go_num, _, HBX5, Lib.hid (by rw [HTT.out]; exact HO5.out), HB5⟩
        case measure => simp [intOf]; omega
    · obtain rfl : k = ds.length := by omega
      have hi9 : ¬ (ds.length : Int) < (ds.length : Int) := by omega
      obtain ⟨A', c', hv⟩ := own_form hown.out
      subst hv
      have cS := hbx.out.cell
      have z1 := (hbel.out.cell (p := ⟨w.heap.size + 1, 0, none⟩) (show w.heap.size + 1 < w2.heap.size by omega)).trans Z2.out
      have z2 : wr.frozen? ⟨w.heap.size + 1, 0, none⟩ = false := (hbel.out.frozen (p := ⟨w.heap.size + 1, 0, none⟩) (show w.heap.size + 1 < w2.heap.size by omega)).trans ZF2.out
      have ho := Lib.hid (own_setCell hown.out (fun e => by have h9 : w2.heap.size ≤ w.heap.size + 1 := (hown.out.lt _ e).1; omega) (.slice A' (enuTo ds ds.length).length c') (p := ⟨w.heap.size + 1, 0, none⟩))
      go_wp2
      refine bodyPost_ret (v := .agg #[.slice A' (enuTo ds ds.length).length c']) (by simp [results, Tryd.results9, go_sem, z1]) rfl ?_
      rw [HM.out, ← enuTo_all]
      exact ⟨A', c', rfl, own_base ho.out (by omega), (HB2.out.trans (hbel.out.mono (by omega))).setCell (by simp) _⟩
end Go.Proofs.YteaiaglangmhbaaDoor
