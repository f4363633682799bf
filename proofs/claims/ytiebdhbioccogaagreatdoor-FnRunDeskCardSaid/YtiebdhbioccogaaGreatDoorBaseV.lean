import Derived.RangeFuncBox
import Derived.RangeFuncNested
import Derived.Deep.DeepCutAuto
import Derived.Test.YtiebdhbioccogaaGreatDoorFewP
import Derived.Test.YtiebdhbioccogaaGreatDoorAlgI
import Derived.Test.YtiebdhbioccogaaGreatDoorBaseE
import Derived.Test.YtiebdhbioccogaaGreatDoorBaseB
import Derived.Laws.EntriesVeiled
import Derived.Test.YtiebdhbioccogaaGreatDoorBaseS
import Derived.Test.YtiebdhbioccogaaGreatDoorFitK
namespace Go.Proofs.YtiebdhbioccogaaGreatDoor
open Go.RowKit
set_option linter.unusedVariables false
set_option linter.unusedSimpArgs false
set_option maxRecDepth 100000

theorem flatAp (xs ys : List D) : flat (xs ++ ys) = flat xs ++ flat ys := by unfold flat; rw [List.flatMap_append]
theorem step_app_Df {W : World} {ops : Array Oper} {o : Oper} {a : Act} {K : Act → World → Prop} {Q : Exit → Act → World → Prop} {E : Prop} (hgd : o.guard = none) (s x : Operand) (ho : o.op = .call { callee := .builtin .append, args := #[s, x], argTypes := #[122, 122] })
    (base : Nat) (v : Value) (n : Nat) (xs : List Value) (hs : a.eval s = v) (hown : W.ownsRow base 108 2 v n xs) (nm : ByteArray) (vl : Int)
    (c g : Nat) (hx : a.eval x = .slice (some ⟨g, 0, none⟩) 1 c) (hblk : W.heap[g]? = some (.cells #[.string nm, .int .i64 vl] 108 (0, 0))) (hn : n ≤ 2000000) (hbase : base ≤ W.heap.size)
    (hK : ∀ v' w', w'.ownsRow base 108 2 v' (n + 1) (xs ++ [.string nm, .int .i64 vl]) → W.grownBy w' v.ownBlock → K (a.put o.dst v') w') :
    if Region.wanted o (yielded ops a.tmps) = true then Oper.wp Tryz.prog o a W K Q else E := by
  have hw : Region.wanted o (yielded ops a.tmps) = true := by simp [Region.wanted, hgd]
  rw [if_pos hw]
  obtain ⟨i0, hi, hz0, hz1, hz2⟩ := info_parts info_D
  exact wp_append_own _ s x _ ho base _ i0 _ 2 24 Tryz.underlying122 hi hz0 hz1 hz2 rfl (by omega) v n xs hs hown ⟨g, 0, none⟩ 1 c [.string nm, .int .i64 vl] hx rfl
    (World.news_of_block hblk) (by simp [Value.oneCell']) (by unfold maxLen; omega) (by omega) hbase (fun v' w' h2 h3 _ => hK v' w' h2 h3)
/-- An owned row without its last definition. -/
theorem own_trunc {w : World} {base n c : Nat} {e : TypeId} {A : Option Addr} {xs ys : List Value} (h : w.ownsRow base e 2 (.slice A (n + 1) c) (n + 1) (xs ++ ys)) (hx : xs.length = n * 2) : w.ownsRow base e 2 (.slice A n c) n xs := by
  refine ⟨hx, ?_⟩
  rcases h.2 with ⟨_, h2⟩ | ⟨g, cap, cur, h1, hb, hg, hc, hm, hs, ht⟩
  · cases h2
  · injection h1 with e1 e2 e3
    subst e1 e3
    refine .inr ⟨g, _, cur, rfl, hb, hg, by omega, hm, hs, ?_⟩
    have := congrArg (List.take (n * 2)) ht
    rw [List.take_take, List.take_left' hx, Nat.min_eq_left (by omega)] at this
    exact this
theorem runDf_to (A : Option Addr) (n c k : Nat) (hk : k ≤ c) (W : World) :
    (Instr.slice 122 (.slice A n c) none (some (.int .i64 (k : Int))) none).run Tryz.prog W = .ok (.slice A k c) W := by
  have hi : (k : Int) ≤ (c : Int) := by omega
  have h0 : (0 : Int) ≤ (k : Int) := by omega
  rw [run_slice_h (P := Tryz.prog) W 122 A n c (by kernel_rfl) .i64 (k : Int) h0 hi]
  have hs : (sizeOf (Tryz.prog.elem 122)).run Tryz.prog W = .ok 2 W := by kernel_rfl
  rw [hs]
  cases A <;> simp [Result.andThen, sliced, Addr.add]
/-- What the closure holds: the list, the chosen ones, itself. -/
structure Ch1 (w : World) (n0 B1 B2 B3 : Nat) (A : Option Addr) (c : Nat) (l pre : List D) (v : Value) : Prop where
  bx : Boxed w B2 122 v
  own : w.ownsRow n0 108 2 v pre.length (flat pre)
  fn : Boxed w B3 229 (.func (.func 184) #[] #[.pointer (some ⟨B1, 0, none⟩), .pointer (some ⟨B2, 0, none⟩), .pointer (some ⟨B3, 0, none⟩)])
  lst : w.cell? ⟨B1, 0, none⟩ = some (.slice A l.length c)
  sd : SD w n0 A l.length c l
  n1 : B1 < n0
  n2 : n0 ≤ B2
  n3 : n0 ≤ B3
  ne : B3 ≠ B2
theorem Ch1.drew {w : World} {n0 B1 B2 B3 c : Nat} {A : Option Addr} {l pre : List D} {v : Value} (h : Ch1 w n0 B1 B2 B3 A c l pre v) : Ch1 w.drew n0 B1 B2 B3 A c l pre v := ⟨h.bx, h.own, h.fn, h.lst, h.sd.drew, h.n1, h.n2, h.n3, h.ne⟩

set_option maxHeartbeats 16000000 in
theorem choose_any (n0 B1 B2 B3 : Nat) (A : Option Addr) (c : Nat) (l : List D) (hin : ∀ d ∈ l, inR d) (hl : l.length ≤ 1000) (n : Nat) : ∀ (k a : Nat) (pre : List D) (v : Value) (w : World) (h : Ch1 w n0 B1 B2 B3 A c l pre v) (hk : k ≤ l.length) (ha : a < 4096) (hn : n ≤ 1000) (hp : pre.length + n ≤ 2000),
    Calls Tryz.prog 184 #[.int .i64 k, .int .i64 n, .int .i64 a, .pointer (some ⟨B1, 0, none⟩), .pointer (some ⟨B2, 0, none⟩), .pointer (some ⟨B3, 0, none⟩)] w fun e w' => ∃ v', e = .returned (.bool (few (l.drop k) n a).isSome) ∧ Ch1 w' n0 B1 B2 B3 A c l (pre ++ (few (l.drop k) n a).getD []) v' ∧ Below n0 w w' := by
  induction n with
  | zero =>
    intro k a pre v w h hk ha hn hp
    rw [few_zero]
    have H := Lib.hid h
    clear h
    go_enter Tryz.func184, Tryz.ntmps184
    by_cases h0 : a = 0
    · subst h0
      go_wp2
      go_ret
      first
      | exact ⟨v, rfl, by simpa using H.out, Below.refl _ _⟩
      | exact ⟨rfl, ⟨v, H.out⟩, Below.refl _ _⟩
    · have e0 : ((a : Int) == 0) = false := by rw [beq_eq_false_iff_ne]; omega
      rw [if_neg h0]
      clear h0
      go_wp2
      go_ret
      first
      | exact ⟨v, rfl, by simpa using H.out, Below.refl _ _⟩
      | exact ⟨rfl, ⟨v, H.out⟩, Below.refl _ _⟩
  | succ n ih =>
    intro k a pre v0 w h hk ha hn hp
    have HIN := Lib.hid hin
    have H0 := Lib.hid h
    clear h hin
    have hn0 : (((n + 1 : Nat) : Int) == 0) = false := by rw [beq_eq_false_iff_ne]; omega
    have hnw : IntKind.i64.wrap (((n + 1 : Nat) : Int) - 1) = (n : Int) := by rw [IntKind.wrap_i64]; omega
    obtain ⟨N1, hN1⟩ : ∃ N1 : Int, ((n + 1 : Nat) : Int) = N1 := ⟨_, rfl⟩
    rw [hN1] at hn0 hnw ⊢
    go_enter Tryz.func184, Tryz.ntmps184
    go_wp2
    go_loopw [10] (fun i wr => ∃ (j : Nat) (v : Value), j ≤ l.length ∧ i = .int .i64 j ∧ Hid (few (l.drop j) (n + 1) a = few (l.drop k) (n + 1) a) ∧ Hid (Ch1 wr n0 B1 B2 B3 A c l pre v) ∧ Hid (Below n0 w wr)) (fun i _ => l.length - (intOf i).toNat)
    case atStart => exact ⟨k, v0, hk, rfl, Lib.hid rfl, H0, Lib.hid (Below.refl _ _)⟩
    case round =>
      clear H0
      obtain ⟨j, v, hj, rfl, hfew, H, hbel⟩ := hrel
      have cl0 := H.out.lst
      by_cases hlt : j < l.length
      · obtain ⟨b, o, hA, hb, c1, c2⟩ := H.out.sd.at_ hlt
        subst hA
        have hi1 : (j : Int) < (l.length : Int) := by omega
        have hi0 : (0 : Int) ≤ (j : Int) := by omega
        have hw1 : IntKind.i64.wrap ((j : Int) + 1) = ((j + 1 : Nat) : Int) := by rw [IntKind.wrap_i64]; omega
        have HI := Lib.hid (HIN.out _ (List.getElem_mem hlt))
        obtain ⟨x, hx⟩ : ∃ x : Nat, l[j].val = x := ⟨l[j].val.toNat, (Int.toNat_of_nonneg HI.out.1).symm⟩
        have hx4 : x < 4096 := by have := HI.out.2; omega
        obtain ⟨z, hz0⟩ : ∃ z, nl a x = z := ⟨_, rfl⟩
        have hz4 : z < 4096 := by rw [← hz0]; exact nl_lt ha
        have HZ := Lib.hid hz0
        have HT := few_at hlt n a
        rw [hx, Int.toNat_natCast, hz0] at HT
        have HTT := Lib.hid HT
        rw [hx] at c2
        have HE : Hid (encD l[j] = [.string l[j].name, .int .i64 x]) := Lib.hid (by unfold encD; rw [hx])
        clear hx hz0 HT
        go_upto_region 6 with fail
        go_cut [] (fun wx => ∃ v2 : Value, Hid (Ch1 wx n0 B1 B2 B3 (some ⟨b, o, none⟩) c l (pre ++ [l[j]]) v2) ∧ Hid (Below n0 wr wx))
        case first =>
          refine wp_region_held_drew (S := fun w' => w'.cell? ⟨B1, 0, none⟩ = some (.slice (some ⟨b, o, none⟩) l.length c) ∧ w'.cell? ⟨b, o + j * 2, none⟩ = some (.string l[j].name) ∧ w'.cell? ⟨b, o + j * 2 + 1, none⟩ = some (.int .i64 x)) (by kernel_rfl) ⟨H.out.lst, c1, c2⟩ (fun hHeld => ?_)
          obtain ⟨V, hV⟩ : ∃ V : World, V = wr.drew := ⟨_, rfl⟩
          have hbV : Below n0 wr V := by rw [hV]; exact (Below.refl _ _).drew
          have hbx : Boxed V B2 122 v := by rw [hV]; exact H.out.bx
          have hfn : Boxed V B3 229 (.func (.func 184) #[] #[.pointer (some ⟨B1, 0, none⟩), .pointer (some ⟨B2, 0, none⟩), .pointer (some ⟨B3, 0, none⟩)]) := by rw [hV]; exact H.out.fn
          have hrow : V.ownsRow n0 108 2 v pre.length (flat pre) := by rw [hV]; exact H.out.own
          have cL : V.cell? ⟨B1, 0, none⟩ = some (.slice (some ⟨b, o, none⟩) l.length c) := by rw [hV]; exact H.out.lst
          have x1 : V.cell? ⟨b, o + j * 2, none⟩ = some (.string l[j].name) := by rw [hV]; exact c1
          have x2 : V.cell? ⟨b, o + j * 2 + 1, none⟩ = some (.int .i64 x) := by rw [hV]; exact c2
          have HSD : Hid (SD V n0 (some ⟨b, o, none⟩) l.length c l) := Lib.hid (by rw [hV]; exact H.out.sd.drew)
          have hz : n0 ≤ V.heap.size := by have := hbx.lt; have := H.out.n2; omega
          have cS := hbx.cell
          rw [← hV] at hHeld ⊢
          clear hV
          refine wpAnyH_take (i := 1) (v := ?_) rfl (by kernel_rfl) (by kernel_rfl) (by kernel_rfl) (fun _ _ _ h => h) (Or.inl ⟨by kernel_rfl, ?_⟩) hHeld ?_
          rotate_left
          · intro wz hSw
            try dsimp only at hSw
            first
            | (go_simp; done)
            | (go_simp; with_reducible rfl)
          try simp only [Act.put, List.setIfInBounds_toArray, List.set_cons_zero, List.set_cons_succ]
          refine wpAnyH_take (i := 2) (v := ?_) rfl (by kernel_rfl) (by kernel_rfl) (by kernel_rfl) (fun _ _ _ h => h) (Or.inl ⟨by kernel_rfl, ?_⟩) hHeld ?_
          rotate_left
          · intro wz hSw
            try dsimp only at hSw
            first
            | (go_simp; done)
            | (go_simp; with_reducible rfl)
          try simp only [Act.put, List.setIfInBounds_toArray, List.set_cons_zero, List.set_cons_succ]
          refine wpAnyH_take (i := 3) (v := ?_) rfl (by kernel_rfl) (by kernel_rfl) (by kernel_rfl) (fun _ _ _ h => h) (Or.inl ⟨by kernel_rfl, ?_⟩) hHeld ?_
          rotate_left
          · intro wz hSw
            try dsimp only at hSw
            first
            | (go_simp; done)
            | (go_simp; with_reducible rfl)
          try simp only [Act.put, List.setIfInBounds_toArray, List.set_cons_zero, List.set_cons_succ]
          refine wpAnyH_take (i := 4) (v := ?_) rfl (by kernel_rfl) (by kernel_rfl) (by kernel_rfl) (fun _ _ _ h => h) (Or.inl ⟨by kernel_rfl, ?_⟩) hHeld ?_
          rotate_left
          · intro wz hSw
            try dsimp only at hSw
            first
            | (go_simp; done)
            | (go_simp; with_reducible rfl)
          try simp only [Act.put, List.setIfInBounds_toArray, List.set_cons_zero, List.set_cons_succ]
          refine wpAnyH_ready (rs := [0, 5]) (by kernel_rfl) (by simp) ?_
          refine AllReadyH.cons rfl (fun K hK => ?_) (AllReadyH.cons rfl (fun K hK => ?_) AllReadyH.nil)
          · skip
            go_simp
            refine hK.out _ _ hHeld (fun hHeld => ?_)
            clear hK K
            try simp only [Act.put, List.setIfInBounds_toArray, List.set_cons_zero, List.set_cons_succ]
            refine wpAnyH_ready (rs := [5]) (by kernel_rfl) (by simp) ?_
            refine AllReadyH.cons rfl (fun K hK => ?_) AllReadyH.nil
            go_simp
            have hbA := (Below.refl V.heap.size V).alloc (Nat.le_refl _) (.cells #[.string l[j].name, .int .i64 x] 108)
            refine hK.out _ _ ⟨keep1 hbA hHeld.1, keep1 hbA hHeld.2.1, keep1 hbA hHeld.2.2⟩ (fun hHeld => ?_)
            clear hK K
            try simp only [Act.put, List.setIfInBounds_toArray, List.set_cons_zero, List.set_cons_succ]
            refine wpAnyH_ready (rs := [6]) (by kernel_rfl) (by simp) ?_
            refine AllReadyH.cons rfl (fun K hK => ?_) AllReadyH.nil
            refine step_app_Df rfl _ _ rfl n0 v _ _ rfl (hrow.alloc _) _ _ _ _ rfl (World.alloc_heap_new _ _) (by omega) (by have := hz; simp; omega) ?_
            intro v' w5 ho hg
            obtain ⟨A5, c5, rfl⟩ := own_form ho
            obtain ⟨hv2, hv3, hr3, hk3, hb3⟩ := hbx.appended (by decide) hrow hz H.out.n2 ho hg
            have hf2 := (hfn.alloc (.cells #[.string l[j].name, .int .i64 x] 108)).kept hg (hfn.not_row (by decide) hrow)
            have hf3 := hf2.other (B' := B2) H.out.ne (.slice A5 (pre.length + 1) c5)
            have hgA : Below n0 V w5 := ((Below.refl n0 V).alloc hz (.cells #[.string l[j].name, .int .i64 x] 108)).grown hg (by simp; omega) (fun q hq => (hrow.lt q hq).1)
            have cS5 := hv2.cell
            have fS5 := hv2.frozen
            refine hK.out _ _ ⟨(hgA.cell (p := ⟨B1, 0, none⟩) H.out.n1).trans cL, (hgA.cell (p := ⟨b, o + j * 2, none⟩) hb).trans x1, (hgA.cell (p := ⟨b, o + j * 2 + 1, none⟩) hb).trans x2⟩ (fun hHeld => ?_)
            clear hK K
            try simp only [Act.put, List.setIfInBounds_toArray, List.set_cons_zero, List.set_cons_succ]
            refine wpAnyH_ready (rs := [7]) (by kernel_rfl) (by simp) ?_
            refine AllReadyH.cons rfl (fun K hK => ?_) AllReadyH.nil
            go_simp
            refine hK.out _ _ ⟨(hb3.cell (p := ⟨B1, 0, none⟩) H.out.n1).trans cL, (hb3.cell (p := ⟨b, o + j * 2, none⟩) hb).trans x1, (hb3.cell (p := ⟨b, o + j * 2 + 1, none⟩) hb).trans x2⟩ (fun hHeld => ?_)
            clear hK K
            try simp only [Act.put, List.setIfInBounds_toArray, List.set_cons_zero, List.set_cons_succ]
            refine wpAnyH_done (by kernel_rfl) ?_ _
            try go_simp
            go_wp2_with fail
            go_meet
            refine ⟨.slice A5 (pre.length + 1) c5, Lib.hid ⟨hv3, ?_, hf3, (hb3.cell (p := ⟨B1, 0, none⟩) H.out.n1).trans cL, HSD.out.below hb3, H.out.n1, H.out.n2, H.out.n3, H.out.ne⟩, Lib.hid (hbV.trans hb3)⟩
            rw [List.length_append, flatAp]
            have h := hr3
            simpa [flat, HE.out] using h
          · skip
            go_simp
            have hbA := (Below.refl V.heap.size V).alloc (Nat.le_refl _) (.cells #[.string l[j].name, .int .i64 x] 108)
            refine hK.out _ _ ⟨keep1 hbA hHeld.1, keep1 hbA hHeld.2.1, keep1 hbA hHeld.2.2⟩ (fun hHeld => ?_)
            clear hK K
            try simp only [Act.put, List.setIfInBounds_toArray, List.set_cons_zero, List.set_cons_succ]
            refine wpAnyH_ready (rs := [0]) (by kernel_rfl) (by simp) ?_
            refine AllReadyH.cons rfl (fun K hK => ?_) AllReadyH.nil
            have cA := keep1 hbA cS
            go_simp
            refine hK.out _ _ hHeld (fun hHeld => ?_)
            clear hK K
            try simp only [Act.put, List.setIfInBounds_toArray, List.set_cons_zero, List.set_cons_succ]
            refine wpAnyH_ready (rs := [6]) (by kernel_rfl) (by simp) ?_
            refine AllReadyH.cons rfl (fun K hK => ?_) AllReadyH.nil
            refine step_app_Df rfl _ _ rfl n0 v _ _ rfl (hrow.alloc _) _ _ _ _ rfl (World.alloc_heap_new _ _) (by omega) (by have := hz; simp; omega) ?_
            intro v' w5 ho hg
            obtain ⟨A5, c5, rfl⟩ := own_form ho
            obtain ⟨hv2, hv3, hr3, hk3, hb3⟩ := hbx.appended (by decide) hrow hz H.out.n2 ho hg
            have hf2 := (hfn.alloc (.cells #[.string l[j].name, .int .i64 x] 108)).kept hg (hfn.not_row (by decide) hrow)
            have hf3 := hf2.other (B' := B2) H.out.ne (.slice A5 (pre.length + 1) c5)
            have hgA : Below n0 V w5 := ((Below.refl n0 V).alloc hz (.cells #[.string l[j].name, .int .i64 x] 108)).grown hg (by simp; omega) (fun q hq => (hrow.lt q hq).1)
            have cS5 := hv2.cell
            have fS5 := hv2.frozen
            refine hK.out _ _ ⟨(hgA.cell (p := ⟨B1, 0, none⟩) H.out.n1).trans cL, (hgA.cell (p := ⟨b, o + j * 2, none⟩) hb).trans x1, (hgA.cell (p := ⟨b, o + j * 2 + 1, none⟩) hb).trans x2⟩ (fun hHeld => ?_)
            clear hK K
            try simp only [Act.put, List.setIfInBounds_toArray, List.set_cons_zero, List.set_cons_succ]
            refine wpAnyH_ready (rs := [7]) (by kernel_rfl) (by simp) ?_
            refine AllReadyH.cons rfl (fun K hK => ?_) AllReadyH.nil
            go_simp
            refine hK.out _ _ ⟨(hb3.cell (p := ⟨B1, 0, none⟩) H.out.n1).trans cL, (hb3.cell (p := ⟨b, o + j * 2, none⟩) hb).trans x1, (hb3.cell (p := ⟨b, o + j * 2 + 1, none⟩) hb).trans x2⟩ (fun hHeld => ?_)
            clear hK K
            try simp only [Act.put, List.setIfInBounds_toArray, List.set_cons_zero, List.set_cons_succ]
            refine wpAnyH_done (by kernel_rfl) ?_ _
            try go_simp
            go_wp2_with fail
            go_meet
            refine ⟨.slice A5 (pre.length + 1) c5, Lib.hid ⟨hv3, ?_, hf3, (hb3.cell (p := ⟨B1, 0, none⟩) H.out.n1).trans cL, HSD.out.below hb3, H.out.n1, H.out.n2, H.out.n3, H.out.ne⟩, Lib.hid (hbV.trans hb3)⟩
            rw [List.length_append, flatAp]
            have h := hr3
            simpa [flat, HE.out] using h
        case rest =>
          obtain ⟨v2, H2, hbx⟩ := hcut
          obtain ⟨wx, e8⟩ : ∃ W : World, W = wc := ⟨_, rfl⟩
          subst e8
          have y2 := (hbx.out.cell (p := ⟨b, o + j * 2 + 1, none⟩) hb).trans c2
          have HBw : Hid (Below n0 w wx) := Lib.hid (hbel.out.trans hbx.out)
          clear H cl0 c1 c2 hbel hbx
          go_upto_region 7 with fail
          refine wp_region_held_drew (S := fun w' => w'.cell? ⟨B3, 0, none⟩ = some (.func (.func 184) #[] #[.pointer (some ⟨B1, 0, none⟩), .pointer (some ⟨B2, 0, none⟩), .pointer (some ⟨B3, 0, none⟩)]) ∧ w'.cell? ⟨B1, 0, none⟩ = some (.slice (some ⟨b, o, none⟩) l.length c) ∧ w'.cell? ⟨b, o + j * 2 + 1, none⟩ = some (.int .i64 x)) (by kernel_rfl) ⟨H2.out.fn.cell, H2.out.lst, y2⟩ (fun hHeld => ?_)
          refine wpAnyH_take (i := 0) (v := ?_) rfl (by kernel_rfl) (by kernel_rfl) (by kernel_rfl) (fun _ _ _ h => h) (Or.inl ⟨by kernel_rfl, ?_⟩) hHeld ?_
          rotate_left
          · intro wz hSw
            try dsimp only at hSw
            first
            | (go_simp; done)
            | (go_simp; with_reducible rfl)
          try simp only [Act.put, List.setIfInBounds_toArray, List.set_cons_zero, List.set_cons_succ]
          refine wpAnyH_take (i := 1) (v := ?_) rfl (by kernel_rfl) (by kernel_rfl) (by kernel_rfl) (fun _ _ _ h => h) (Or.inl ⟨by kernel_rfl, ?_⟩) hHeld ?_
          rotate_left
          · intro wz hSw
            try dsimp only at hSw
            first
            | (go_simp; done)
            | (go_simp; with_reducible rfl)
          try simp only [Act.put, List.setIfInBounds_toArray, List.set_cons_zero, List.set_cons_succ]
          refine wpAnyH_take (i := 2) (v := ?_) rfl (by kernel_rfl) (by kernel_rfl) (by kernel_rfl) (fun _ _ _ h => h) (Or.inl ⟨by kernel_rfl, ?_⟩) hHeld ?_
          rotate_left
          · intro wz hSw
            try dsimp only at hSw
            first
            | (go_simp; done)
            | (go_simp; with_reducible rfl)
          try simp only [Act.put, List.setIfInBounds_toArray, List.set_cons_zero, List.set_cons_succ]
          refine wpAnyH_take (i := 3) (v := ?_) rfl (by kernel_rfl) (by kernel_rfl) (by kernel_rfl) (fun _ _ _ h => h) (Or.inl ⟨by kernel_rfl, ?_⟩) hHeld ?_
          rotate_left
          · intro wz hSw
            try dsimp only at hSw
            first
            | (go_simp; done)
            | (go_simp; with_reducible rfl)
          try simp only [Act.put, List.setIfInBounds_toArray, List.set_cons_zero, List.set_cons_succ]
          refine wpAnyH_take (i := 4) (v := ?_) rfl (by kernel_rfl) (by kernel_rfl) (by kernel_rfl) (fun _ _ _ h => h) (Or.inl ⟨by kernel_rfl, ?_⟩) hHeld ?_
          rotate_left
          · intro wz hSw
            try dsimp only at hSw
            first
            | (go_simp; done)
            | (go_simp; with_reducible rfl)
          try simp only [Act.put, List.setIfInBounds_toArray, List.set_cons_zero, List.set_cons_succ]
          refine wpAnyH_take (i := 5) (v := ?_) rfl (by kernel_rfl) (by kernel_rfl) (by kernel_rfl) (fun _ _ _ h => h) (Or.inl ⟨by kernel_rfl, ?_⟩) hHeld ?_
          rotate_left
          · intro wz hSw
            try dsimp only at hSw
            first
            | (go_simp; done)
            | (go_simp; with_reducible rfl)
          try simp only [Act.put, List.setIfInBounds_toArray, List.set_cons_zero, List.set_cons_succ]
          refine wpAnyH_take (i := 6) (v := ?_) rfl (by kernel_rfl) (by kernel_rfl) (by kernel_rfl) (fun _ _ _ h => h) (Or.inl ⟨by kernel_rfl, ?_⟩) hHeld ?_
          rotate_left
          · intro wz hSw
            try dsimp only at hSw
            first
            | (go_simp; done)
            | (go_simp; with_reducible rfl)
          try simp only [Act.put, List.setIfInBounds_toArray, List.set_cons_zero, List.set_cons_succ]
          refine wpAnyH_take (i := 7) (v := ?_) rfl (by kernel_rfl) (by kernel_rfl) (by kernel_rfl) (fun _ _ _ h => h) (Or.inl ⟨by kernel_rfl, ?_⟩) hHeld ?_
          rotate_left
          · intro wz hSw
            try dsimp only at hSw
            first
            | (go_simp; done)
            | (go_simp; with_reducible rfl)
          try simp only [Act.put, List.setIfInBounds_toArray, List.set_cons_zero, List.set_cons_succ]
          refine wpAnyH_take (i := 8) (v := ?_) rfl (by kernel_rfl) (by kernel_rfl) (by kernel_rfl) (fun _ _ _ h => h) (Or.inl ⟨by kernel_rfl, ?_⟩) hHeld ?_
          rotate_left
          · intro wz hSw
            try dsimp only at hSw
            first
            | (go_simp; done)
            | (go_simp; with_reducible rfl)
          try simp only [Act.put, List.setIfInBounds_toArray, List.set_cons_zero, List.set_cons_succ]
          refine wpAnyH_take (i := 9) (v := ?_) rfl (by kernel_rfl) (by kernel_rfl) (by kernel_rfl) (fun _ _ _ h => h) (Or.inl ⟨by kernel_rfl, ?_⟩) hHeld ?_
          rotate_left
          · intro wz hSw
            try dsimp only at hSw
            first
            | (go_simp; done)
            | (go_simp; with_reducible rfl)
          try simp only [Act.put, List.setIfInBounds_toArray, List.set_cons_zero, List.set_cons_succ]
          refine wpAnyH_take (i := 10) (v := ?_) rfl (by kernel_rfl) (by kernel_rfl) (by kernel_rfl) (fun _ _ _ h => h) (Or.inl ⟨by kernel_rfl, ?_⟩) hHeld ?_
          rotate_left
          · intro wz hSw
            try dsimp only at hSw
            first
            | (go_simp; done)
            | (go_simp; with_reducible rfl)
          try simp only [Act.put, List.setIfInBounds_toArray, List.set_cons_zero, List.set_cons_succ]
          refine wpAnyH_ready (rs := [11]) (by kernel_rfl) (by simp) ?_
          refine AllReadyH.cons rfl (fun K hK => ?_) AllReadyH.nil
          go_simp
          refine (bsLess_v a x _ ha hx4 HZ.out).mono ?_
          rintro e V1 ⟨rfl, hw⟩
          rw [← hw]
          clear hw V1
          go_simp
          refine hK.out _ _ hHeld (fun hHeld => ?_)
          clear hK K
          try simp only [Act.put, List.setIfInBounds_toArray, List.set_cons_zero, List.set_cons_succ]
          refine wpAnyH_ready (rs := [12]) (by kernel_rfl) (by simp) ?_
          refine AllReadyH.cons rfl (fun K hK => ?_) AllReadyH.nil
          go_simp
          refine (ih (j + 1) z (pre ++ [l[j]]) v2 _ (H2.out.drew) (by omega) hz4 (by omega) (by rw [List.length_append]; simp; omega)).mono ?_
          rintro e w6 ⟨v6, rfl, h6, hb6⟩
          have H6 := Lib.hid h6
          have HB6 : Hid (Below n0 w w6) := Lib.hid ((HBw.out.drew).trans hb6)
          have hy : Below n0 wx w6 := ((Below.refl n0 wx).drew).trans hb6
          clear h6 hb6
          go_simp
          refine hK.out _ _ ⟨H6.out.fn.cell, H6.out.lst, (hy.cell (p := ⟨b, o + j * 2 + 1, none⟩) hb).trans y2⟩ (fun hHeld => ?_)
          clear hK K hy
          try simp only [Act.put, List.setIfInBounds_toArray, List.set_cons_zero, List.set_cons_succ]
          refine wpAnyH_done (by kernel_rfl) ?_ _
          try go_simp
          obtain ⟨f, hf⟩ : ∃ f, few (l.drop (j + 1)) n z = f := ⟨_, rfl⟩
          have hT := HTT.out
          rw [hf] at hT H6 ⊢
          cases f with
          | some m =>
            have HF : Hid (few (l.drop k) (n + 1) a = some (l[j] :: m)) := Lib.hid (hfew.out.symm.trans hT)
            clear hT hf HTT
            simp only [Option.isSome_some, Option.getD_some] at H6 ⊢
            go_wp2
            go_ret
            rw [HF.out]
            exact ⟨v6, rfl, by have h := H6.out; rw [List.append_assoc] at h; exact h, HB6.out⟩
          | none =>
            have HF : Hid (few (l.drop (j + 1)) (n + 1) a = few (l.drop k) (n + 1) a) := Lib.hid (hT.symm.trans hfew.out)
            clear hT hf HTT
            simp only [Option.isSome_none, Option.getD_none, List.append_nil] at H6 ⊢
            obtain ⟨A6, c6, hv6⟩ := own_form H6.out.own
            subst hv6
            have hl6 : (pre ++ [l[j]]).length = pre.length + 1 := by simp
            have ho6 := H6.out.own
            have hb6 := H6.out.bx
            rw [hl6] at ho6 hb6
            rw [flatAp] at ho6
            have ho7 := own_trunc ho6 (flat_length pre)
            have cS := hb6.cell
            have fS := hb6.frozen
            have hcap : pre.length ≤ c6 := by
              rcases ho6.2 with ⟨_, h2⟩ | ⟨g, cap, cur, h1, _, _, hc, _⟩
              · cases h2
              · injection h1 with e1 e2 e3; omega
            have hsl := runDf_to A6 (pre.length + 1) c6 pre.length hcap
            have hpw : IntKind.i64.wrap (((pre.length + 1 : Nat) : Int) - 1) = (pre.length : Int) := by rw [IntKind.wrap_i64]; omega
            have H7 : Hid (Ch1 (w6.setCell ⟨B2, 0, none⟩ (.slice A6 pre.length c6)) n0 B1 B2 B3 (some ⟨b, o, none⟩) c l pre (.slice A6 pre.length c6)) := Lib.hid ⟨hb6.set _, own_setCell ho7 (fun e => hb6.not_row (by decide) ho7 e.symm) _, H6.out.fn.other H6.out.ne _, ((grownBy_setCell' w6 B2 _).cell H6.out.lst (fun e => by have := H6.out.n1; have := H6.out.n2; have e2 : B1 = B2 := Option.some.inj e; omega)), H6.out.sd.below ((Below.refl n0 w6).setCell (p := ⟨B2, 0, none⟩) H6.out.n2 _), H6.out.n1, H6.out.n2, H6.out.n3, H6.out.ne⟩
            have HB7 : Hid (Below n0 w (w6.setCell ⟨B2, 0, none⟩ (.slice A6 pre.length c6))) := Lib.hid (HB6.out.setCell (p := ⟨B2, 0, none⟩) H6.out.n2 _)
            clear ho6 ho7 hb6 hcap
            go_wp2
            go_roundw
            case rel => exact ⟨j + 1, _, by omega, by go_num, HF, H7, HB7⟩
            case measure => simp [intOf]; omega
      · obtain rfl : j = l.length := by omega
        have hi9 : ¬ (l.length : Int) < (l.length : Int) := by omega
        have HF : Hid (few (l.drop k) (n + 1) a = none) := Lib.hid (by rw [← hfew.out, List.drop_of_length_le (Nat.le_refl _)]; exact few_nil _ _)
        clear hfew
        go_wp2
        go_ret
        rw [HF.out]
        first
        | exact ⟨v, rfl, by simpa using H.out, hbel.out⟩
        | exact ⟨rfl, ⟨v, by simpa using H.out⟩, hbel.out⟩
end Go.Proofs.YtiebdhbioccogaaGreatDoor

namespace Go.Proofs.YtiebdhbioccogaaGreatDoor
open Go.RowKit
set_option linter.unusedVariables false
set_option linter.unusedSimpArgs false
set_option maxRecDepth 100000

theorem Ch1.below {w w' : World} {n0 B1 B2 B3 c : Nat} {A : Option Addr} {l pre : List D} {v : Value} (h : Ch1 w n0 B1 B2 B3 A c l pre v) (hb : Below w.heap.size w w') : Ch1 w' n0 B1 B2 B3 A c l pre v :=
  ⟨(hb.block B2 h.bx.lt).trans h.bx, own_below h.own hb, (hb.block B3 (Array.getElem?_eq_some_iff.1 h.fn).1).trans h.fn, keep1 hb h.lst, h.sd.below (hb.mono (by have := h.bx.lt; have := h.n2; omega)), h.n1, h.n2, h.n3, h.ne⟩
/-- Definitions in a slice, wherever it lies. -/
def SdP (ms : List D) (w : World) (e : Ending) (w' : World) : Prop :=
  ∃ A c, e = .returned (.slice A ms.length c) ∧ SD w' w'.heap.size A ms.length c ms ∧ Below w.heap.size w w'
set_option maxHeartbeats 16000000 in
theorem implFewest_any (l : List D) (A : Option Addr) (n c : Nat) (w : World) (hr : SD w w.heap.size A n c l) (hin : ∀ d ∈ l, inR d) (hn : n ≤ 1000) :
    Calls Tryz.prog 162 #[.slice A n c] w (SdP (mShortL l) w) := by
  obtain rfl := hr.len
  have hl := hn
  have HIN := Lib.hid hin
  have HOK := Lib.hid hr.ok
  have HS40 : Hid (Small40 l) := Lib.hid fun d hd => by have := hin d hd; unfold inR at this; omega
  obtain ⟨m, hm⟩ : ∃ m, mMask l = m := ⟨_, rfl⟩
  have HM := Lib.hid hm
  have hm4 : m < 4096 := by rw [← hm]; exact mMask_lt12 hin
  have HUP : Hid (∀ k m2, fewUp l m (k + 1) = some m2 → k ≤ l.length → m2 = mShortL l) := Lib.hid (by rw [← hm]; exact fun k m2 h hk => fewUp_hit h hk)
  have HALL : Hid (fewUp l m l.length = none → mShortL l = l) := Lib.hid (by rw [← hm]; intro h; unfold mShortL; rw [h]; rfl)
  clear hm
  obtain ⟨W, hW⟩ : ∃ W : World, W = (((w.alloc (.cells #[.slice A l.length c] 122)).alloc (.cells #[.slice none 0 0] 122)).alloc (.cells #[(.func (.func 184) #[] #[.pointer (some ⟨w.heap.size, 0, none⟩), .pointer (some ⟨w.heap.size + 1, 0, none⟩), .pointer (some ⟨w.heap.size + 1 + 1, 0, none⟩)])] 229)) := ⟨_, rfl⟩
  have b3 := (Boxed.new ((w.alloc (.cells #[.slice A l.length c] 122)).alloc (.cells #[.slice none 0 0] 122)) 229 (.func (.func 184) #[] #[.pointer (some ⟨w.heap.size, 0, none⟩), .pointer (some ⟨w.heap.size + 1, 0, none⟩), .pointer (some ⟨w.heap.size + 1 + 1, 0, none⟩)]))
  have b2 := (Boxed.new (w.alloc (.cells #[.slice A l.length c] 122)) 122 (.slice none 0 0)).alloc (.cells #[(.func (.func 184) #[] #[.pointer (some ⟨w.heap.size, 0, none⟩), .pointer (some ⟨w.heap.size + 1, 0, none⟩), .pointer (some ⟨w.heap.size + 1 + 1, 0, none⟩)])] 229)
  simp only [World.size_alloc] at b2 b3
  have hbl : Below w.heap.size w (((w.alloc (.cells #[.slice A l.length c] 122)).alloc (.cells #[.slice none 0 0] 122)).alloc (.cells #[(.func (.func 184) #[] #[.pointer (some ⟨w.heap.size, 0, none⟩), .pointer (some ⟨w.heap.size + 1, 0, none⟩), .pointer (some ⟨w.heap.size + 1 + 1, 0, none⟩)])] 229)) := (((Below.refl _ _).alloc (Nat.le_refl _) _).alloc (by simp) _).alloc (by simp; omega) _
  have hbW : Below w.heap.size w W := by rw [hW]; exact hbl
  have HC : Hid (Ch1 W (w.heap.size + 1) w.heap.size (w.heap.size + 1) (w.heap.size + 1 + 1) A c l [] (.slice none 0 0)) := Lib.hid ⟨by rw [hW]; exact b2, World.ownsRow_nil _ _ _ _, by rw [hW]; exact b3, by rw [hW]; simp [go_sem], (hr.below hbW).more (by omega), by omega, by omega, by omega, by omega⟩
  have HBW := Lib.hid hbW
  have hcl : (World.cell? ((((w.alloc (.cells #[.slice A l.length c] 122)).alloc (.cells #[.slice none 0 0] 122)).alloc (.cells #[(.func (.func 184) #[] #[.pointer (some ⟨w.heap.size, 0, none⟩), .pointer (some ⟨w.heap.size + 1, 0, none⟩), .pointer (some ⟨w.heap.size + 1 + 1, 0, none⟩)])] 229))) ⟨w.heap.size, 0, none⟩) = some (.slice A l.length c) := by simp [go_sem]
  have HW := Lib.hid hW.symm
  clear hr hin hW b2 b3 hbl hbW hn
  go_enter Tryz.func162, Tryz.ntmps162
  go_wp2_with fail
  rw [HW.out]
  clear HW hcl
  go_loopw [9] (fun i wr => ∃ (k : Nat) (v : Value), k ≤ l.length ∧ i = .int .i64 k ∧ Hid (fewUp l m k = none) ∧ Hid (Ch1 wr (w.heap.size + 1) w.heap.size (w.heap.size + 1) (w.heap.size + 1 + 1) A c l [] v) ∧ Hid (Below w.heap.size w wr)) (fun i _ => l.length - (intOf i).toNat)
  case atStart => exact ⟨0, _, Nat.zero_le _, rfl, Lib.hid rfl, HC, HBW⟩
  case round =>
    clear HC HBW
    obtain ⟨k, v, hk, rfl, hup, H, hbel⟩ := hrel
    have hz : w.heap.size + 1 ≤ wr.heap.size := by have := H.out.bx.lt; omega
    by_cases hlt : k < l.length
    · have hi1 : (k : Int) < (l.length : Int) := by omega
      go_wp2_with fail
      refine wp_region_held_drew (S := fun w' => w'.cell? ⟨w.heap.size + 1 + 1, 0, none⟩ = some (.func (.func 184) #[] #[.pointer (some ⟨w.heap.size, 0, none⟩), .pointer (some ⟨w.heap.size + 1, 0, none⟩), .pointer (some ⟨w.heap.size + 1 + 1, 0, none⟩)]) ∧ w'.cell? ⟨w.heap.size, 0, none⟩ = some (.slice A l.length c)) (by kernel_rfl) ⟨H.out.fn.cell, H.out.lst⟩ (fun hHeld => ?_)
      refine wpAnyH_take (i := 0) (v := ?_) rfl (by kernel_rfl) (by kernel_rfl) (by kernel_rfl) (fun _ _ _ h => h) (Or.inl ⟨by kernel_rfl, ?_⟩) hHeld ?_
      rotate_left
      · intro wz hSw
        try dsimp only at hSw
        first
        | (go_simp; done)
        | (go_simp; with_reducible rfl)
      try simp only [Act.put, List.setIfInBounds_toArray, List.set_cons_zero, List.set_cons_succ]
      refine wpAnyH_take (i := 1) (v := ?_) rfl (by kernel_rfl) (by kernel_rfl) (by kernel_rfl) (fun _ _ _ h => h) (Or.inl ⟨by kernel_rfl, ?_⟩) hHeld ?_
      rotate_left
      · intro wz hSw
        try dsimp only at hSw
        first
        | (go_simp; done)
        | (go_simp; with_reducible rfl)
      try simp only [Act.put, List.setIfInBounds_toArray, List.set_cons_zero, List.set_cons_succ]
      refine wpAnyH_take (i := 2) (v := ?_) rfl (by kernel_rfl) (by kernel_rfl) (by kernel_rfl) (fun _ _ _ h => h) (Or.inl ⟨by kernel_rfl, ?_⟩) hHeld ?_
      rotate_left
      · intro wz hSw
        try dsimp only at hSw
        first
        | (go_simp; done)
        | (go_simp; with_reducible rfl)
      try simp only [Act.put, List.setIfInBounds_toArray, List.set_cons_zero, List.set_cons_succ]
      refine wpAnyH_ready (rs := [3]) (by kernel_rfl) (by simp) ?_
      refine AllReadyH.cons rfl (fun K hK => ?_) AllReadyH.nil
      go_simp
      refine (implMask_v l _ _ _ _ ((H.out.sd.drew.call hz)) HS40.out HM.out).mono ?_
      rintro e w2 ⟨rfl, hb⟩
      have H2 := Lib.hid (H.out.drew.below hb)
      have hb2 : Below wr.heap.size wr w2 := ((Below.refl wr.heap.size wr).drew).trans hb
      clear hb
      go_simp
      refine hK.out _ _ ⟨H2.out.fn.cell, H2.out.lst⟩ (fun hHeld => ?_)
      clear hK K
      try simp only [Act.put, List.setIfInBounds_toArray, List.set_cons_zero, List.set_cons_succ]
      refine wpAnyH_ready (rs := [4]) (by kernel_rfl) (by simp) ?_
      refine AllReadyH.cons rfl (fun K hK => ?_) AllReadyH.nil
      go_simp
      refine (choose_any (w.heap.size + 1) w.heap.size (w.heap.size + 1) (w.heap.size + 1 + 1) A c l HIN.out hl k 0 m [] v w2 H2.out (Nat.zero_le _) hm4 (by omega) (by simp; omega)).mono ?_
      rintro e w6 ⟨v6, rfl, h6, hb6⟩
      have H6 := Lib.hid h6
      have HB6 : Hid (Below w.heap.size w w6) := Lib.hid ((hbel.out.trans (hb2.mono hbel.out.size)).trans (hb6.mono (by omega)))
      clear h6 hb6 hb2
      go_simp
      refine hK.out _ _ ⟨H6.out.fn.cell, H6.out.lst⟩ (fun hHeld => ?_)
      clear hK K
      try simp only [Act.put, List.setIfInBounds_toArray, List.set_cons_zero, List.set_cons_succ]
      refine wpAnyH_done (by kernel_rfl) ?_ _
      try go_simp
      rw [List.drop_zero] at H6
      try rw [List.drop_zero]
      obtain ⟨f, hf⟩ : ∃ f, few l k m = f := ⟨_, rfl⟩
      have hst : fewUp l m (k + 1) = f := by unfold fewUp; rw [hup.out]; exact hf
      rw [hf] at H6 ⊢
      cases f with
      | none =>
        have HST := Lib.hid hst
        simp only [Option.isSome_none, Option.getD_none, List.append_nil] at H6 ⊢
        clear hst hf
        go_wp2
        go_roundw
        case rel => exact ⟨k + 1, v6, by omega, by go_num, HST, H6, HB6⟩
        case measure => simp [intOf]; omega
      | some m2 =>
        have HE := Lib.hid (HUP.out k m2 hst hk)
        simp only [Option.isSome_some, Option.getD_some, List.nil_append] at H6 ⊢
        have HO2 : Hid (∀ d ∈ m2, d.ok) := Lib.hid fun d hd => HOK.out d ((few_len hf).2 d hd)
        clear hst hf
        obtain ⟨A6, c6, hv6⟩ := own_form H6.out.own
        subst hv6
        have cS := H6.out.bx.cell
        go_wp2
        go_ret
        rw [← HE.out]
        exact ⟨A6, c6, rfl, sd_of_own H6.out.own HO2.out, HB6.out⟩
    · obtain rfl : k = l.length := by omega
      have hi9 : ¬ (l.length : Int) < (l.length : Int) := by omega
      have cl := H.out.lst
      go_wp2
      go_ret
      rw [HALL.out hup.out]
      exact ⟨A, c, rfl, H.out.sd.call hz, hbel.out⟩
end Go.Proofs.YtiebdhbioccogaaGreatDoor

namespace Go.Proofs.YtiebdhbioccogaaGreatDoor
open Go.RowKit Go.Shelf
set_option linter.unusedVariables false
set_option linter.unusedSimpArgs false
set_option maxRecDepth 100000
attribute [local go_sem] Oper.semAt_some

theorem wpListIn_app_Dw {F : Fence} {k : Nat} {W : World} {ops : Array Oper} {rest : List Oper} {o : Oper} {a : Act} {Q : Exit → Act → World → Prop} (t : TypeId) (ht : Tryz.prog.underlying t = some (.slice 108)) (hgd : o.guard = none) (s x : Operand) (ho : o.op = .call { callee := .builtin .append, args := #[s, x], argTypes := #[t, t] })
    (base : Nat) (v : Value) (n : Nat) (xs : List Value) (hs : a.eval s = v) (hown : W.ownsRow base 108 2 v n xs) (nm : ByteArray) (vl : Int)
    (c g : Nat) (hx : a.eval x = .slice (some ⟨g, 0, none⟩) 1 c) (hgw : g = W.heap.size) (hn : n ≤ 2000000) (hbase : base ≤ W.heap.size)
    (h : ∀ v' w', w'.ownsRow base 108 2 v' (n + 1) (xs ++ [.string nm, .int .i64 vl]) → (W.alloc (.cells #[.string nm, .int .i64 vl] 108)).grownBy w' v.ownBlock → Where W v v' → wpListIn F k Tryz.prog ops Q rest (a.put o.dst v') w') :
    wpListIn F k Tryz.prog ops Q (o :: rest) a (W.alloc (.cells #[.string nm, .int .i64 vl] 108)) := by
  subst hgw
  refine wpListIn_plain hgd fun K hK' => ?_
  obtain ⟨v', w', hr, h2, h3, h4⟩ := run_app_Dw _ base t o.type ht v n xs (hown.alloc (.cells #[.string nm, .int .i64 vl] 108)) nm vl W.heap.size c (heap_alloc_new W _) hn (by simp; omega)
  unfold Oper.wpIn
  constructor
  · simp [Oper.about, ho, resolve, Target.leads, Sem.run_pure]
  · rw [Oper.semAt_plain F _ _ (by intro c hc; rw [ho] at hc; cases hc)]
    simp [execOp, ho, resolve, invoke, builtin, hs, hx, hr, Result.andThen]
    exact hK' _ _ (h v' w' h2 h3 (fun q hq hne => h4 q (by simp; omega) hne))

set_option maxHeartbeats 16000000 in
theorem appSeq_any (B1 B2 m c a : Nat) (A : Option Addr) (ds : List D) (hin : ∀ d ∈ ds, inR d) (hm : m ≤ 1048576) (ha : a < 4096) (w : World) (h1 : w.cell? ⟨B1, 0, none⟩ = some (.slice A m c)) (h2 : w.cell? ⟨B2, 0, none⟩ = some (.int .i64 a)) (hS : SD w w.heap.size A m c ds) (hl : ds.length ≤ 1000) :
    Calls Tryz.prog 182 #[.slice none 0 0, .func (.func 183) #[] #[.pointer (some ⟨B1, 0, none⟩), .pointer (some ⟨B2, 0, none⟩)]] w (DefsP (mFit ds a) w) := by
  have hfl : (mFit ds a).length ≤ 1000 := Nat.le_trans (mFit_len ds a) hl
  refine (callsIn_wide (n := 6)).1 ?_
  refine callsIn_of_wp_marks Tryz.func182 rfl trivial ?_ rfl
  simp only [Tryz.ntmps182, List.size_toArray, List.length_cons, List.length_nil, Nat.reduceAdd, Nat.reduceSub, Array.replicate_succ, Array.replicate_zero, List.push_toArray, List.append_toArray, List.nil_append, List.cons_append]
  gi_wp2
  have bO := Boxed.new w 33 (.slice none 0 0)
  have hb0 : Below w.heap.size w (w.alloc (.cells #[.slice none 0 0] 33)) := (Below.refl _ w).alloc (Nat.le_refl _) _
  have hsz : (w.alloc (.cells #[.slice none 0 0] 33)).heap.size = w.heap.size + 1 := by simp
  obtain ⟨W0, hW0⟩ : ∃ W0, w.alloc (.cells #[.slice none 0 0] 33) = W0 := ⟨_, rfl⟩
  rw [hW0] at bO hb0 hsz ⊢
  clear hW0
  have b1 := keep1 hb0 h1
  have b2 := keep1 hb0 h2
  have hS0 : SD W0 W0.heap.size A m c ds := (hS.below hb0).call hb0.size
  refine wpIn_rangeFunc_ownH rfl (by omega) (gf := 183) (lb := #[.pointer (some ⟨B1, 0, none⟩), .pointer (some ⟨B2, 0, none⟩)]) rfl trivial (enters_of Tryz.func183 (by kernel_rfl) rfl)
    (fitO_stops 5 (by omega) B1 B2 w.heap.size w.heap.size m c a A ds hin hm ha W0 (by omega) bO.cell b1 b2 hS0)
    (fun h k => h.trans k) (fun W l o o' hl h hc hw => ⟨belowK_b (w := W0) (by omega) W l o o' hl h hc hw, fun g hgs hno => by
      have hsl : w.heap.size ≠ l := by omega
      have hcell : (W.putObj l o').cell? ⟨w.heap.size, 0, none⟩ = W.cell? ⟨w.heap.size, 0, none⟩ := World.cell?_of_block (World.putObj_heap_other (by first | exact hsl | exact Ne.symm hsl))
      refine ⟨fun ⟨v, k1, k2⟩ => hno ⟨v, hcell.symm.trans k1, k2⟩, fun cs r hg => ?_⟩
      have hne : g ≠ l := fun e => by subst e; rw [hg] at h; cases h; cases hc
      exact (World.putObj_heap_other (by first | exact hne | exact Ne.symm hne)).trans hg⟩) (Below.refl _ _) (fun _ => rfl)
    (fun pre W => (∃ v, Boxed W w.heap.size 33 v ∧ W.ownsRow w.heap.size 108 2 v pre.length (flat pre) ∧ True) ∧ Below w.heap.size w W)
    (fun _ _ _ => False)
    (OwnFrom.and (Own.from (holdsRow_own w.heap.size w.heap.size 33 108 2 (fun pre : List D => pre.length) (fun pre => flat pre) (fun _ _ => True)) _) (ownFrom_below (Nat.le_refl _) (by omega)))
    (fun _ _ _ _ _ hs _ _ => hs)
    ⟨⟨_, bO, World.ownsRow_nil _ _ _ _, trivial⟩, hb0⟩
    (fun x a' W => ∃ Bx, w.heap.size < Bx ∧ (∃ v, Boxed W w.heap.size 33 v ∧ v.ownBlock ≠ some Bx) ∧ Box2 W Bx x ∧ a' = { tmps := #[.slice none 0 0, .func (.func 183) #[] #[.pointer (some ⟨B1, 0, none⟩), .pointer (some ⟨B2, 0, none⟩)], .pointer (some ⟨w.heap.size, 0, none⟩), undef, .slice none 0 0, .pointer (some ⟨Bx, 0, none⟩), .func (.func 183) #[] #[.pointer (some ⟨B1, 0, none⟩), .pointer (some ⟨B2, 0, none⟩)], .agg #[.string x.name, .int .i64 x.val], undef, undef, undef, undef, undef], defers := [] })
    (fun x a' _ X Y row hs hg hr => by obtain ⟨Bx, k1, ⟨v, k4, k5⟩, k2, k3⟩ := hs; exact ⟨Bx, k1, ⟨v, boxed_own w.heap.size 33 (fun (_ : Unit) => v) () X Y row k4 hg (fun r e => (hr r e).2), k5⟩, k2.own hg (fun r e => (hr r e).2), k3⟩)
    ?assign ?body ?done ?stop
  case assign =>
    rintro l pre x W K ⟨⟨v, hv, hrow, _⟩, hB⟩ hK
    unfold encDv
    gi_wp2
    have hbW : Below W.heap.size W (W.alloc (.cells #[.string x.name, .int .i64 x.val] 108)) := (Below.refl _ W).alloc (Nat.le_refl _) _
    exact hK _ _ ((KeepsOthers.alloc _ _).from _) (KpO.below hbW hB.size hv.lt) ⟨⟨v, hv.alloc _, hrow.alloc _, trivial⟩, hB.alloc hB.size _⟩ ⟨W.heap.size, hv.lt, ⟨v, hv.alloc _, fun e => by have := hrow.lt _ e; omega⟩, World.alloc_heap_new W _, rfl⟩
  case body =>
    rintro l pre x a' W hl2 ⟨r, hr⟩ ⟨⟨v, hv, hrow, _⟩, hB⟩ ⟨Bx, hBx, ⟨v2, hv2, hNE⟩, bX, rfl⟩ hlt
    have hvv : v = v2 := by have h := hv.symm.trans hv2; simpa using h
    rw [← hvv] at hNE
    clear hv2 hvv v2
    have cS := hv.cell
    obtain ⟨d0, d1⟩ := bX.cell
    have hpl : pre.length ≤ 1000 := by omega
    gi_wp2_with (gi_at_builtin; refine wpListIn_app_Dw _ rfl rfl _ _ rfl w.heap.size v pre.length _ rfl hrow _ _ _ _ rfl (by first | rfl | simp) (by omega) hB.size ?_; intro v' w5 ho hg hwh; obtain ⟨A5, c5, rfl⟩ := own_form ho; obtain ⟨hv2, hv3, hr3, hk3, hb3⟩ := hv.appended (by decide) hrow hB.size (Nat.le_refl _) ho hg; have cS5 := hv2.cell; have fS5 := hv2.frozen)
    refine ⟨hk3.from _, ⟨hb3, fun g hgs hno => ⟨fun ⟨u, k1, k2⟩ => ?_, fun cs rr hgd => ?_⟩⟩, ⟨⟨_, hv3, by rw [List.length_append, flatAp]; simpa [flat, encD] using hr3, trivial⟩, hB.trans hb3⟩⟩
    · rw [hv3.cell] at k1
      cases k1
      exact hwh g hgs (fun e => hno ⟨v, hv.cell, e⟩) k2
    · have hne : some g ≠ v.ownBlock := fun e => hno ⟨v, hv.cell, e.symm⟩
      have k1 : (W.alloc (.cells #[.string x.name, .int .i64 x.val] 108)).heap[g]? = some (Obj.cells cs 108 rr) := (Below.heap_alloc _ _ _ hgs).trans hgd
      have k2 : w5.heap[g]? = some (Obj.cells cs 108 rr) := (hg.block g (by simp; omega) hne).trans k1
      have k3 : g ≠ w.heap.size := fun e => by
        subst e
        rw [show W.heap[w.heap.size]? = _ from hv] at hgd
        cases hgd
      exact ((grownBy_setCell' w5 w.heap.size (.slice A5 (pre.length + 1) c5)).block g (Array.getElem?_eq_some_iff.1 k2).1 (fun e => k3 (by injection e))).trans k2
  case done =>
    rintro D ys W hD hys ⟨⟨v, hv, hrow, _⟩, hB⟩ hK
    have cS := hv.cell
    subst hys
    obtain ⟨A', c', rfl⟩ := own_form hrow
    gi_wp2
    refine ⟨by simp, .inl ⟨_, _, rfl, run_takeDeferred hK, ?_⟩⟩
    exact ⟨_, results_tmp rfl _ _ _, A', c', rfl, ownsRow_putObj hrow _ hK rfl, hB.trans (belowK_b (w := w) (Nat.le_refl _) W D _ _ (by omega) hK rfl rfl)⟩
  case stop =>
    rintro D c pre W _ _ h _
    exact h.elim
theorem collect_any (B1 B2 m c a : Nat) (A : Option Addr) (ds : List D) (hin : ∀ d ∈ ds, inR d) (hm : m ≤ 1048576) (ha : a < 4096) (w : World) (h1 : w.cell? ⟨B1, 0, none⟩ = some (.slice A m c)) (h2 : w.cell? ⟨B2, 0, none⟩ = some (.int .i64 a)) (hS : SD w w.heap.size A m c ds) (hl : ds.length ≤ 1000) :
    Calls Tryz.prog 160 #[.func (.func 183) #[] #[.pointer (some ⟨B1, 0, none⟩), .pointer (some ⟨B2, 0, none⟩)]] w (DefsP (mFit ds a) w) := by
  have HA := Lib.hid (appSeq_any B1 B2 m c a A ds hin hm ha w h1 h2 hS hl)
  unfold DefsP at HA
  clear h1 h2 hS
  go_enter Tryz.func160, Tryz.ntmps160
  go_wp2_with fail
  refine HA.out.mono ?_
  rintro e w1 ⟨A1, c1, rfl, ho, hb⟩
  have HO := Lib.hid ho
  have HB := Lib.hid hb
  clear ho hb HA
  go_wp2
  go_ret
  exact ⟨A1, c1, rfl, HO.out, HB.out⟩
theorem fitOf_any (A : Option Addr) (m c : Nat) (x : Int) (w : World) :
    Calls Tryz.prog 161 #[.slice A m c, .int .i64 x] w fun e w' => e = .returned (.func (.func 183) #[] #[.pointer (some ⟨w.heap.size, 0, none⟩), .pointer (some ⟨w.heap.size + 1, 0, none⟩)]) ∧ w' = (w.alloc (.cells #[.slice A m c] 122)).alloc (.cells #[.int .i64 x] 182) :=
  (callsIn_wide (n := 6)).1 (fitOf_in 6 A m c x w)
set_option maxHeartbeats 4000000 in
theorem shortest_any (ds : List D) (b : Int) (a : Nat) (A : Option Addr) (m c : Nat) (w : World) (hr : SD w w.heap.size A m c ds) (hin : ∀ d ∈ ds, inR d) (hn : m ≤ 1000) (ha : a < 4096) :
    Calls Tryz.prog 133 #[.agg #[.slice A m c, .int .i64 b], .int .i64 a] w (SdP (mShortL (mFit ds a)) w) := by
  have HF := Lib.hid (FB.start hr b)
  have HOK := Lib.hid hr.ok
  have hlen := hr.len
  have hdl : ds.length ≤ 1000 := by omega
  have hll : (mFit ds a).length ≤ 1000 := Nat.le_trans (mFit_len ds a) hdl
  clear hlen
  have HIN2 : Hid (∀ d ∈ mFit ds a, inR d) := Lib.hid fun d hd => hin d (mFit_mem hd)
  have HOK2 : Hid (∀ d ∈ mFit ds a, d.ok) := Lib.hid fun d hd => HOK.out d (mFit_mem hd)
  have c0 := HF.out.c0
  obtain ⟨w1, hw⟩ : ∃ W : World, W = w.alloc (.cells #[.slice A m c, .int .i64 b] 35) := ⟨_, rfl⟩
  clear hr
  go_enter Tryz.func133, Tryz.ntmps133
  go_wp2_with fail
  refine (fitOf_any _ _ _ _ _).mono ?_
  rintro e w2 ⟨rfl, hw2⟩
  have hb2 : Below w1.heap.size w1 w2 := by rw [hw2, hw]; exact ((Below.refl _ _).alloc (Nat.le_refl _) _).alloc (by simp) _
  have k1 : w2.cell? ⟨w1.heap.size, 0, none⟩ = some (.slice A m c) := by rw [hw2, hw]; simp [go_sem]
  have k2 : w2.cell? ⟨w1.heap.size + 1, 0, none⟩ = some (.int .i64 a) := by rw [hw2, hw]; simp [go_sem]
  have hS2 : SD w2 w2.heap.size A m c ds := ((show SD w1 w1.heap.size A m c ds by rw [hw]; exact HF.out.sd).below hb2).call hb2.size
  have HB2 : Hid (Below w.heap.size w w2) := Lib.hid ((show Below w.heap.size w w1 by rw [hw]; exact (Below.refl _ _).alloc (Nat.le_refl _) _).trans (hb2.mono (by rw [hw]; simp)))
  have HC := Lib.hid (collect_any w1.heap.size (w1.heap.size + 1) m c a A ds hin (by omega) ha w2 k1 k2 hS2 hdl)
  unfold DefsP at HC
  rw [← hw]
  clear hw hw2 hb2 k1 k2 hS2 c0
  go_wp2_with fail
  refine HC.out.mono ?_
  rintro e w3 ⟨A3, c3, rfl, ho, hb⟩
  have HS3 := Lib.hid (sd_of_own ho HOK2.out)
  have HB3 : Hid (Below w.heap.size w w3) := Lib.hid (HB2.out.trans (hb.mono HB2.out.size))
  clear ho hb HC HB2
  go_wp2_with fail
  refine (implFewest_any (mFit ds a) _ _ _ _ HS3.out HIN2.out hll).mono ?_
  rintro e w4 ⟨A4, c4, rfl, hs, hb⟩
  have HS4 := Lib.hid hs
  have HB4 := Lib.hid hb
  clear hs hb
  go_wp2
  go_ret
  exact ⟨A4, c4, rfl, HS4.out, HB3.out.trans (HB4.out.mono HB3.out.size)⟩
end Go.Proofs.YtiebdhbioccogaaGreatDoor

