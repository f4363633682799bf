import Derived.RangeFuncBox
import Derived.RangeFuncNested
import Derived.Deep.DeepCutAuto
import Derived.Test.YtboehlffbibgmaaDoorFewP
import Derived.Test.YtboehlffbibgmaaDoorAlgI
import Derived.Test.YtboehlffbibgmaaDoorBaseE
import Derived.Test.YtboehlffbibgmaaDoorBaseB
namespace Go.Proofs.YtboehlffbibgmaaDoor
open Go.RowKit
set_option linter.unusedVariables false
set_option linter.unusedSimpArgs false
set_option maxRecDepth 100000

theorem flatAp (xs ys : List D) : flat (xs ++ ys) = flat xs ++ flat ys := by unfold flat; rw [List.flatMap_append]
theorem step_app_Df {W : World} {ops : Array Oper} {o : Oper} {a : Act} {K : Act → World → Prop} {Q : Exit → Act → World → Prop} {E : Prop} (hgd : o.guard = none) (s x : Operand) (ho : o.op = .call { callee := .builtin .append, args := #[s, x], argTypes := #[56, 56] })
    (base : Nat) (v : Value) (n : Nat) (xs : List Value) (hs : a.eval s = v) (hown : W.ownsRow base 83 2 v n xs) (nm : ByteArray) (vl : Int)
    (c g : Nat) (hx : a.eval x = .slice (some ⟨g, 0, none⟩) 1 c) (hblk : W.heap[g]? = some (.cells #[.string nm, .int .i64 vl] 83 (0, 0))) (hn : n ≤ 2000000) (hbase : base ≤ W.heap.size)
    (hK : ∀ v' w', w'.ownsRow base 83 2 v' (n + 1) (xs ++ [.string nm, .int .i64 vl]) → W.grownBy w' v.ownBlock → K (a.put o.dst v') w') :
    if Region.wanted o (yielded ops a.tmps) = true then Oper.wp Tryd.prog o a W K Q else E := by
  have hw : Region.wanted o (yielded ops a.tmps) = true := by simp [Region.wanted, hgd]
  rw [if_pos hw]
  obtain ⟨i0, hi, hz0, hz1, hz2⟩ := info_parts info_D
  exact wp_append_own _ s x _ ho base _ i0 _ 2 24 Tryd.underlying56 hi hz0 hz1 hz2 rfl (by omega) v n xs hs hown ⟨g, 0, none⟩ 1 c [.string nm, .int .i64 vl] hx rfl
    (World.news_of_block hblk) (by simp [Value.oneCell']) (by unfold maxLen; omega) (by omega) hbase (fun v' w' h2 h3 _ => hK v' w' h2 h3)
/-- An owned row without its last definition. -/
theorem own_trunc {w : World} {base n c : Nat} {e : TypeId} {A : Option Addr} {xs ys : List Value} (h : w.ownsRow base e 2 (.slice A (n + 1) c) (n + 1) (xs ++ ys)) (hx : xs.length = n * 2) : w.ownsRow base e 2 (.slice A n c) n xs := by
  refine ⟨hx, ?_⟩
  rcases h.2 with ⟨_, h2⟩ | ⟨g, cap, cur, h1, hb, hg, hc, hm, hs, ht⟩
  · cases h2
  · injection h1 with e1 e2 e3
    subst e1 e3
    refine .inr ⟨g, _, cur, rfl, hb, hg, by omega, hm, hs, ?_⟩
    have := congrArg (List.take (n * 2)) ht
    rw [List.take_take, List.take_left' hx, Nat.min_eq_left (by omega)] at this
    exact this
theorem runDf_to (A : Option Addr) (n c k : Nat) (hk : k ≤ c) (W : World) :
    (Instr.slice 56 (.slice A n c) none (some (.int .i64 (k : Int))) none).run Tryd.prog W = .ok (.slice A k c) W := by
  have hi : (k : Int) ≤ (c : Int) := by omega
  have h0 : (0 : Int) ≤ (k : Int) := by omega
  rw [run_slice_h (P := Tryd.prog) W 56 A n c (by kernel_rfl) .i64 (k : Int) h0 hi]
  have hs : (sizeOf (Tryd.prog.elem 56)).run Tryd.prog W = .ok 2 W := by kernel_rfl
  rw [hs]
  cases A <;> simp [Result.andThen, sliced, Addr.add]
/-- What the closure holds: the list, the chosen ones, itself. -/
structure Ch1 (w : World) (n0 B1 B2 B3 : Nat) (A : Option Addr) (c : Nat) (l pre : List D) (v : Value) : Prop where
  bx : Boxed w B2 56 v
  own : w.ownsRow n0 83 2 v pre.length (flat pre)
  fn : Boxed w B3 139 (.func (.func 109) #[] #[.pointer (some ⟨B1, 0, none⟩), .pointer (some ⟨B2, 0, none⟩), .pointer (some ⟨B3, 0, none⟩)])
  lst : w.cell? ⟨B1, 0, none⟩ = some (.slice A l.length c)
  sd : SD w n0 A l.length c l
  n1 : B1 < n0
  n2 : n0 ≤ B2
  n3 : n0 ≤ B3
  ne : B3 ≠ B2
theorem Ch1.drew {w : World} {n0 B1 B2 B3 c : Nat} {A : Option Addr} {l pre : List D} {v : Value} (h : Ch1 w n0 B1 B2 B3 A c l pre v) : Ch1 w.drew n0 B1 B2 B3 A c l pre v := ⟨h.bx, h.own, h.fn, h.lst, h.sd.drew, h.n1, h.n2, h.n3, h.ne⟩

set_option maxHeartbeats 16000000 in
theorem choose_any (n0 B1 B2 B3 : Nat) (A : Option Addr) (c : Nat) (l : List D) (hin : ∀ d ∈ l, inR d) (hl : l.length ≤ 1000) (n : Nat) : ∀ (k a : Nat) (pre : List D) (v : Value) (w : World) (h : Ch1 w n0 B1 B2 B3 A c l pre v) (hk : k ≤ l.length) (ha : a < 4096) (hn : n ≤ 1000) (hp : pre.length + n ≤ 2000),
    Calls Tryd.prog 109 #[.int .i64 k, .int .i64 n, .int .i64 a, .pointer (some ⟨B1, 0, none⟩), .pointer (some ⟨B2, 0, none⟩), .pointer (some ⟨B3, 0, none⟩)] w fun e w' => ∃ v', e = .returned (.bool (few (l.drop k) n a).isSome) ∧ Ch1 w' n0 B1 B2 B3 A c l (pre ++ (few (l.drop k) n a).getD []) v' ∧ Below n0 w w' := by
  induction n with
  | zero =>
    intro k a pre v w h hk ha hn hp
    rw [few_zero]
    have H := Lib.hid h
    clear h
    go_enter Tryd.func109, Tryd.ntmps109
    by_cases h0 : a = 0
    · subst h0
      go_wp2
      go_ret
      first
      | exact ⟨v, rfl, by simpa using H.out, Below.refl _ _⟩
      | exact ⟨rfl, ⟨v, H.out⟩, Below.refl _ _⟩
    · have e0 : ((a : Int) == 0) = false := by rw [beq_eq_false_iff_ne]; omega
      rw [if_neg h0]
      clear h0
      go_wp2
      go_ret
      first
      | exact ⟨v, rfl, by simpa using H.out, Below.refl _ _⟩
      | exact ⟨rfl, ⟨v, H.out⟩, Below.refl _ _⟩
  | succ n ih =>
    intro k a pre v0 w h hk ha hn hp
    have HIN := Lib.hid hin
    have H0 := Lib.hid h
    clear h hin
    have hn0 : (((n + 1 : Nat) : Int) == 0) = false := by rw [beq_eq_false_iff_ne]; omega
    have hnw : IntKind.i64.wrap (((n + 1 : Nat) : Int) - 1) = (n : Int) := by rw [IntKind.wrap_i64]; omega
    obtain ⟨N1, hN1⟩ : ∃ N1 : Int, ((n + 1 : Nat) : Int) = N1 := ⟨_, rfl⟩
    rw [hN1] at hn0 hnw ⊢
    go_enter Tryd.func109, Tryd.ntmps109
    go_wp2
    go_loopw [10] (fun i wr => ∃ (j : Nat) (v : Value), j ≤ l.length ∧ i = .int .i64 j ∧ Hid (few (l.drop j) (n + 1) a = few (l.drop k) (n + 1) a) ∧ Hid (Ch1 wr n0 B1 B2 B3 A c l pre v) ∧ Hid (Below n0 w wr)) (fun i _ => l.length - (intOf i).toNat)
    case atStart => exact ⟨k, v0, hk, rfl, Lib.hid rfl, H0, Lib.hid (Below.refl _ _)⟩
    case round =>
      clear H0
      obtain ⟨j, v, hj, rfl, hfew, H, hbel⟩ := hrel
      have cl0 := H.out.lst
      by_cases hlt : j < l.length
      · obtain ⟨b, o, hA, hb, c1, c2⟩ := H.out.sd.at_ hlt
        subst hA
        have hi1 : (j : Int) < (l.length : Int) := by omega
        have hi0 : (0 : Int) ≤ (j : Int) := by omega
        have hw1 : IntKind.i64.wrap ((j : Int) + 1) = ((j + 1 : Nat) : Int) := by rw [IntKind.wrap_i64]; omega
        have HI := Lib.hid (HIN.out _ (List.getElem_mem hlt))
        obtain ⟨x, hx⟩ : ∃ x : Nat, l[j].val = x := ⟨l[j].val.toNat, (Int.toNat_of_nonneg HI.out.1).symm⟩
        have hx4 : x < 4096 := by have := HI.out.2; omega
        obtain ⟨z, hz0⟩ : ∃ z, nl a x = z := ⟨_, rfl⟩
        have hz4 : z < 4096 := by rw [← hz0]; exact nl_lt ha
        have HZ := Lib.hid hz0
        have HT := few_at hlt n a
        rw [hx, Int.toNat_natCast, hz0] at HT
        have HTT := Lib.hid HT
        rw [hx] at c2
        have HE : Hid (encD l[j] = [.string l[j].name, .int .i64 x]) := Lib.hid (by unfold encD; rw [hx])
        clear hx hz0 HT
        go_upto_region 6 with fail
        go_cut [] (fun wx => ∃ v2 : Value, Hid (Ch1 wx n0 B1 B2 B3 (some ⟨b, o, none⟩) c l (pre ++ [l[j]]) v2) ∧ Hid (Below n0 wr wx))
        case first =>
          refine wp_region_held_drew (S := fun w' => w'.cell? ⟨B1, 0, none⟩ = some (.slice (some ⟨b, o, none⟩) l.length c) ∧ w'.cell? ⟨b, o + j * 2, none⟩ = some (.string l[j].name) ∧ w'.cell? ⟨b, o + j * 2 + 1, none⟩ = some (.int .i64 x)) (by kernel_rfl) ⟨H.out.lst, c1, c2⟩ (fun hHeld => ?_)
          obtain ⟨V, hV⟩ : ∃ V : World, V = wr.drew := ⟨_, rfl⟩
          have hbV : Below n0 wr V := by rw [hV]; exact (Below.refl _ _).drew
          have hbx : Boxed V B2 56 v := by rw [hV]; exact H.out.bx
          have hfn : Boxed V B3 139 (.func (.func 109) #[] #[.pointer (some ⟨B1, 0, none⟩), .pointer (some ⟨B2, 0, none⟩), .pointer (some ⟨B3, 0, none⟩)]) := by rw [hV]; exact H.out.fn
          have hrow : V.ownsRow n0 83 2 v pre.length (flat pre) := by rw [hV]; exact H.out.own
          have cL : V.cell? ⟨B1, 0, none⟩ = some (.slice (some ⟨b, o, none⟩) l.length c) := by rw [hV]; exact H.out.lst
          have x1 : V.cell? ⟨b, o + j * 2, none⟩ = some (.string l[j].name) := by rw [hV]; exact c1
          have x2 : V.cell? ⟨b, o + j * 2 + 1, none⟩ = some (.int .i64 x) := by rw [hV]; exact c2
          have HSD : Hid (SD V n0 (some ⟨b, o, none⟩) l.length c l) := Lib.hid (by rw [hV]; exact H.out.sd.drew)
          have hz : n0 ≤ V.heap.size := by have := hbx.lt; have := H.out.n2; omega
          have cS := hbx.cell
          rw [← hV] at hHeld ⊢
          clear hV
          refine wpAnyH_take (i := 1) (v := ?_) rfl (by kernel_rfl) (by kernel_rfl) (by kernel_rfl) (fun _ _ _ h => h) (Or.inl ⟨by kernel_rfl, ?_⟩) hHeld ?_
          rotate_left
          · intro wz hSw
            try dsimp only at hSw
            first
            | (go_simp; done)
            | (go_simp; with_reducible rfl)
          try simp only [Act.put, List.setIfInBounds_toArray, List.set_cons_zero, List.set_cons_succ]
          refine wpAnyH_take (i := 2) (v := ?_) rfl (by kernel_rfl) (by kernel_rfl) (by kernel_rfl) (fun _ _ _ h => h) (Or.inl ⟨by kernel_rfl, ?_⟩) hHeld ?_
          rotate_left
          · intro wz hSw
            try dsimp only at hSw
            first
            | (go_simp; done)
            | (go_simp; with_reducible rfl)
          try simp only [Act.put, List.setIfInBounds_toArray, List.set_cons_zero, List.set_cons_succ]
          refine wpAnyH_take (i := 3) (v := ?_) rfl (by kernel_rfl) (by kernel_rfl) (by kernel_rfl) (fun _ _ _ h => h) (Or.inl ⟨by kernel_rfl, ?_⟩) hHeld ?_
          rotate_left
          · intro wz hSw
            try dsimp only at hSw
            first
            | (go_simp; done)
            | (go_simp; with_reducible rfl)
          try simp only [Act.put, List.setIfInBounds_toArray, List.set_cons_zero, List.set_cons_succ]
          refine wpAnyH_take (i := 4) (v := ?_) rfl (by kernel_rfl) (by kernel_rfl) (by kernel_rfl) (fun _ _ _ h => h) (Or.inl ⟨by kernel_rfl, ?_⟩) hHeld ?_
          rotate_left
          · intro wz hSw
            try dsimp only at hSw
            first
            | (go_simp; done)
            | (go_simp; with_reducible rfl)
          try simp only [Act.put, List.setIfInBounds_toArray, List.set_cons_zero, List.set_cons_succ]
          refine wpAnyH_ready (rs := [0, 5]) (by kernel_rfl) (by simp) ?_
          refine AllReadyH.cons rfl (fun K hK => ?_) (AllReadyH.cons rfl (fun K hK => ?_) AllReadyH.nil)
          · skip
            go_simp
            refine hK.out _ _ hHeld (fun hHeld => ?_)
            clear hK K
            try simp only [Act.put, List.setIfInBounds_toArray, List.set_cons_zero, List.set_cons_succ]
            refine wpAnyH_ready (rs := [5]) (by kernel_rfl) (by simp) ?_
            refine AllReadyH.cons rfl (fun K hK => ?_) AllReadyH.nil
            go_simp
            have hbA := (Below.refl V.heap.size V).alloc (Nat.le_refl _) (.cells #[.string l[j].name, .int .i64 x] 83)
            refine hK.out _ _ ⟨keep1 hbA hHeld.1, keep1 hbA hHeld.2.1, keep1 hbA hHeld.2.2⟩ (fun hHeld => ?_)
            clear hK K
            try simp only [Act.put, List.setIfInBounds_toArray, List.set_cons_zero, List.set_cons_succ]
            refine wpAnyH_ready (rs := [6]) (by kernel_rfl) (by simp) ?_
            refine AllReadyH.cons rfl (fun K hK => ?_) AllReadyH.nil
            refine step_app_Df rfl _ _ rfl n0 v _ _ rfl (hrow.alloc _) _ _ _ _ rfl (World.alloc_heap_new _ _) (by omega) (by have := hz; simp; omega) ?_
            intro v' w5 ho hg
            obtain ⟨A5, c5, rfl⟩ := own_form ho
            obtain ⟨hv2, hv3, hr3, hk3, hb3⟩ := hbx.appended (by decide) hrow hz H.out.n2 ho hg
            have hf2 := (hfn.alloc (.cells #[.string l[j].name, .int .i64 x] 83)).kept hg (hfn.not_row (by decide) hrow)
            have hf3 := hf2.other (B' := B2) H.out.ne (.slice A5 (pre.length + 1) c5)
            have hgA : Below n0 V w5 := ((Below.refl n0 V).alloc hz (.cells #[.string l[j].name, .int .i64 x] 83)).grown hg (by simp; omega) (fun q hq => (hrow.lt q hq).1)
            have cS5 := hv2.cell
            have fS5 := hv2.frozen
            refine hK.out _ _ ⟨(hgA.cell (p := ⟨B1, 0, none⟩) H.out.n1).trans cL, (hgA.cell (p := ⟨b, o + j * 2, none⟩) hb).trans x1, (hgA.cell (p := ⟨b, o + j * 2 + 1, none⟩) hb).trans x2⟩ (fun hHeld => ?_)
            clear hK K
            try simp only [Act.put, List.setIfInBounds_toArray, List.set_cons_zero, List.set_cons_succ]
            refine wpAnyH_ready (rs := [7]) (by kernel_rfl) (by simp) ?_
            refine AllReadyH.cons rfl (fun K hK => ?_) AllReadyH.nil
            go_simp
            refine hK.out _ _ ⟨(hb3.cell (p := ⟨B1, 0, none⟩) H.out.n1).trans cL, (hb3.cell (p := ⟨b, o + j * 2, none⟩) hb).trans x1, (hb3.cell (p := ⟨b, o + j * 2 + 1, none⟩) hb).trans x2⟩ (fun hHeld => ?_)
            clear hK K
            try simp only [Act.put, List.setIfInBounds_toArray, List.set_cons_zero, List.set_cons_succ]
            refine wpAnyH_done (by kernel_rfl) ?_ _
            try go_simp
            go_wp2_with fail
            go_meet
            refine ⟨.slice A5 (pre.length + 1) c5, Lib.hid ⟨hv3, ?_, hf3, (hb3.cell (p := ⟨B1, 0, none⟩) H.out.n1).trans cL, HSD.out.below hb3, H.out.n1, H.out.n2, H.out.n3, H.out.ne⟩, Lib.hid (hbV.trans hb3)⟩
            rw [List.length_append, flatAp]
            have h := hr3
            simpa [flat, HE.out] using h
          · skip
            go_simp
            have hbA := (Below.refl V.heap.size V).alloc (Nat.le_refl _) (.cells #[.string l[j].name, .int .i64 x] 83)
            refine hK.out _ _ ⟨keep1 hbA hHeld.1, keep1 hbA hHeld.2.1, keep1 hbA hHeld.2.2⟩ (fun hHeld => ?_)
            clear hK K
            try simp only [Act.put, List.setIfInBounds_toArray, List.set_cons_zero, List.set_cons_succ]
            refine wpAnyH_ready (rs := [0]) (by kernel_rfl) (by simp) ?_
            refine AllReadyH.cons rfl (fun K hK => ?_) AllReadyH.nil
            have cA := keep1 hbA cS
            go_simp
            refine hK.out _ _ hHeld (fun hHeld => ?_)
            clear hK K
            try simp only [Act.put, List.setIfInBounds_toArray, List.set_cons_zero, List.set_cons_succ]
            refine wpAnyH_ready (rs := [6]) (by kernel_rfl) (by simp) ?_
            refine AllReadyH.cons rfl (fun K hK => ?_) AllReadyH.nil
            refine step_app_Df rfl _ _ rfl n0 v _ _ rfl (hrow.alloc _) _ _ _ _ rfl (World.alloc_heap_new _ _) (by omega) (by have := hz; simp; omega) ?_
            intro v' w5 ho hg
            obtain ⟨A5, c5, rfl⟩ := own_form ho
            obtain ⟨hv2, hv3, hr3, hk3, hb3⟩ := hbx.appended (by decide) hrow hz H.out.n2 ho hg
            have hf2 := (hfn.alloc (.cells #[.string l[j].name, .int .i64 x] 83)).kept hg (hfn.not_row (by decide) hrow)
            have hf3 := hf2.other (B' := B2) H.out.ne (.slice A5 (pre.length + 1) c5)
            have hgA : Below n0 V w5 := ((Below.refl n0 V).alloc hz (.cells #[.string l[j].name, .int .i64 x] 83)).grown hg (by simp; omega) (fun q hq => (hrow.lt q hq).1)
            have cS5 := hv2.cell
            have fS5 := hv2.frozen
            refine hK.out _ _ ⟨(hgA.cell (p := ⟨B1, 0, none⟩) H.out.n1).trans cL, (hgA.cell (p := ⟨b, o + j * 2, none⟩) hb).trans x1, (hgA.cell (p := ⟨b, o + j * 2 + 1, none⟩) hb).trans x2⟩ (fun hHeld => ?_)
            clear hK K
            try simp only [Act.put, List.setIfInBounds_toArray, List.set_cons_zero, List.set_cons_succ]
            refine wpAnyH_ready (rs := [7]) (by kernel_rfl) (by simp) ?_
            refine AllReadyH.cons rfl (fun K hK => ?_) AllReadyH.nil
            go_simp
            refine hK.out _ _ ⟨(hb3.cell (p := ⟨B1, 0, none⟩) H.out.n1).trans cL, (hb3.cell (p := ⟨b, o + j * 2, none⟩) hb).trans x1, (hb3.cell (p := ⟨b, o + j * 2 + 1, none⟩) hb).trans x2⟩ (fun hHeld => ?_)
            clear hK K
            try simp only [Act.put, List.setIfInBounds_toArray, List.set_cons_zero, List.set_cons_succ]
            refine wpAnyH_done (by kernel_rfl) ?_ _
            try go_simp
            go_wp2_with fail
            go_meet
            refine ⟨.slice A5 (pre.length + 1) c5, Lib.hid ⟨hv3, ?_, hf3, (hb3.cell (p := ⟨B1, 0, none⟩) H.out.n1).trans cL, HSD.out.below hb3, H.out.n1, H.out.n2, H.out.n3, H.out.ne⟩, Lib.hid (hbV.trans hb3)⟩
            rw [List.length_append, flatAp]
            have h := hr3
            simpa [flat, HE.out] using h
        case rest =>
          obtain ⟨v2, H2, hbx⟩ := hcut
          obtain ⟨wx, e8⟩ : ∃ W : World, W = wc := ⟨_, rfl⟩
          subst e8
          have y2 := (hbx.out.cell (p := ⟨b, o + j * 2 + 1, none⟩) hb).trans c2
          have HBw : Hid (Below n0 w wx) := Lib.hid (hbel.out.trans hbx.out)
          clear H cl0 c1 c2 hbel hbx
          go_upto_region 7 with fail
          refine wp_region_held_drew (S := fun w' => w'.cell? ⟨B3, 0, none⟩ = some (.func (.func 109) #[] #[.pointer (some ⟨B1, 0, none⟩), .pointer (some ⟨B2, 0, none⟩), .pointer (some ⟨B3, 0, none⟩)]) ∧ w'.cell? ⟨B1, 0, none⟩ = some (.slice (some ⟨b, o, none⟩) l.length c) ∧ w'.cell? ⟨b, o + j * 2 + 1, none⟩ = some (.int .i64 x)) (by kernel_rfl) ⟨H2.out.fn.cell, H2.out.lst, y2⟩ (fun hHeld => ?_)
          refine wpAnyH_take (i := 0) (v := ?_) rfl (by kernel_rfl) (by kernel_rfl) (by kernel_rfl) (fun _ _ _ h => h) (Or.inl ⟨by kernel_rfl, ?_⟩) hHeld ?_
          rotate_left
          · intro wz hSw
            try dsimp only at hSw
            first
            | (go_simp; done)
            | (go_simp; with_reducible rfl)
          try simp only [Act.put, List.setIfInBounds_toArray, List.set_cons_zero, List.set_cons_succ]
          refine wpAnyH_take (i := 1) (v := ?_) rfl (by kernel_rfl) (by kernel_rfl) (by kernel_rfl) (fun _ _ _ h => h) (Or.inl ⟨by kernel_rfl, ?_⟩) hHeld ?_
          rotate_left
          · intro wz hSw
            try dsimp only at hSw
            first
            | (go_simp; done)
            | (go_simp; with_reducible rfl)
          try simp only [Act.put, List.setIfInBounds_toArray, List.set_cons_zero, List.set_cons_succ]
          refine wpAnyH_take (i := 2) (v := ?_) rfl (by kernel_rfl) (by kernel_rfl) (by kernel_rfl) (fun _ _ _ h => h) (Or.inl ⟨by kernel_rfl, ?_⟩) hHeld ?_
          rotate_left
          · intro wz hSw
            try dsimp only at hSw
            first
            | (go_simp; done)
            | (go_simp; with_reducible rfl)
          try simp only [Act.put, List.setIfInBounds_toArray, List.set_cons_zero, List.set_cons_succ]
          refine wpAnyH_take (i := 3) (v := ?_) rfl (by kernel_rfl) (by kernel_rfl) (by kernel_rfl) (fun _ _ _ h => h) (Or.inl ⟨by kernel_rfl, ?_⟩) hHeld ?_
          rotate_left
          · intro wz hSw
            try dsimp only at hSw
            first
            | (go_simp; done)
            | (go_simp; with_reducible rfl)
          try simp only [Act.put, List.setIfInBounds_toArray, List.set_cons_zero, List.set_cons_succ]
          refine wpAnyH_take (i := 4) (v := ?_) rfl (by kernel_rfl) (by kernel_rfl) (by kernel_rfl) (fun _ _ _ h => h) (Or.inl ⟨by kernel_rfl, ?_⟩) hHeld ?_
          rotate_left
          · intro wz hSw
            try dsimp only at hSw
            first
            | (go_simp; done)
            | (go_simp; with_reducible rfl)
          try simp only [Act.put, List.setIfInBounds_toArray, List.set_cons_zero, List.set_cons_succ]
          refine wpAnyH_take (i := 5) (v := ?_) rfl (by kernel_rfl) (by kernel_rfl) (by kernel_rfl) (fun _ _ _ h => h) (Or.inl ⟨by kernel_rfl, ?_⟩) hHeld ?_
          rotate_left
          · intro wz hSw
            try dsimp only at hSw
            first
            | (go_simp; done)
            | (go_simp; with_reducible rfl)
          try simp only [Act.put, List.setIfInBounds_toArray, List.set_cons_zero, List.set_cons_succ]
          refine wpAnyH_take (i := 6) (v := ?_) rfl (by kernel_rfl) (by kernel_rfl) (by kernel_rfl) (fun _ _ _ h => h) (Or.inl ⟨by kernel_rfl, ?_⟩) hHeld ?_
          rotate_left
          · intro wz hSw
            try dsimp only at hSw
            first
            | (go_simp; done)
            | (go_simp; with_reducible rfl)
          try simp only [Act.put, List.setIfInBounds_toArray, List.set_cons_zero, List.set_cons_succ]
          refine wpAnyH_take (i := 7) (v := ?_) rfl (by kernel_rfl) (by kernel_rfl) (by kernel_rfl) (fun _ _ _ h => h) (Or.inl ⟨by kernel_rfl, ?_⟩) hHeld ?_
          rotate_left
          · intro wz hSw
            try dsimp only at hSw
            first
            | (go_simp; done)
            | (go_simp; with_reducible rfl)
          try simp only [Act.put, List.setIfInBounds_toArray, List.set_cons_zero, List.set_cons_succ]
          refine wpAnyH_take (i := 8) (v := ?_) rfl (by kernel_rfl) (by kernel_rfl) (by kernel_rfl) (fun _ _ _ h => h) (Or.inl ⟨by kernel_rfl, ?_⟩) hHeld ?_
          rotate_left
          · intro wz hSw
            try dsimp only at hSw
            first
            | (go_simp; done)
            | (go_simp; with_reducible rfl)
          try simp only [Act.put, List.setIfInBounds_toArray, List.set_cons_zero, List.set_cons_succ]
          refine wpAnyH_take (i := 9) (v := ?_) rfl (by kernel_rfl) (by kernel_rfl) (by kernel_rfl) (fun _ _ _ h => h) (Or.inl ⟨by kernel_rfl, ?_⟩) hHeld ?_
          rotate_left
          · intro wz hSw
            try dsimp only at hSw
            first
            | (go_simp; done)
            | (go_simp; with_reducible rfl)
          try simp only [Act.put, List.setIfInBounds_toArray, List.set_cons_zero, List.set_cons_succ]
          refine wpAnyH_take (i := 10) (v := ?_) rfl (by kernel_rfl) (by kernel_rfl) (by kernel_rfl) (fun _ _ _ h => h) (Or.inl ⟨by kernel_rfl, ?_⟩) hHeld ?_
          rotate_left
          · intro wz hSw
            try dsimp only at hSw
            first
            | (go_simp; done)
            | (go_simp; with_reducible rfl)
          try simp only [Act.put, List.setIfInBounds_toArray, List.set_cons_zero, List.set_cons_succ]
          refine wpAnyH_ready (rs := [11]) (by kernel_rfl) (by simp) ?_
          refine AllReadyH.cons rfl (fun K hK => ?_) AllReadyH.nil
          go_simp
          refine (bsLess_v a x _ ha hx4 HZ.out).mono ?_
          rintro e V1 ⟨rfl, hw⟩
          rw [← hw]
          clear hw V1
          go_simp
          refine hK.out _ _ hHeld (fun hHeld => ?_)
          clear hK K
          try simp only [Act.put, List.setIfInBounds_toArray, List.set_cons_zero, List.set_cons_succ]
          refine wpAnyH_ready (rs := [12]) (by kernel_rfl) (by simp) ?_
          refine AllReadyH.cons rfl (fun K hK => ?_) AllReadyH.nil
          go_simp
          refine (ih (j + 1) z (pre ++ [l[j]]) v2 _ (H2.out.drew) (by omega) hz4 (by omega) (by rw [List.length_append]; simp; omega)).mono ?_
          rintro e w6 ⟨v6, rfl, h6, hb6⟩
          have H6 := Lib.hid h6
          have HB6 : Hid (Below n0 w w6) := Lib.hid ((HBw.out.drew).trans hb6)
          have hy : Below n0 wx w6 := ((Below.refl n0 wx).drew).trans hb6
          clear h6 hb6
          go_simp
          refine hK.out _ _ ⟨H6.out.fn.cell, H6.out.lst, (hy.cell (p := ⟨b, o + j * 2 + 1, none⟩) hb).trans y2⟩ (fun hHeld => ?_)
          clear hK K hy
          try simp only [Act.put, List.setIfInBounds_toArray, List.set_cons_zero, List.set_cons_succ]
          refine wpAnyH_done (by kernel_rfl) ?_ _
          try go_simp
          obtain ⟨f, hf⟩ : ∃ f, few (l.drop (j + 1)) n z = f := ⟨_, rfl⟩
          have hT := HTT.out
          rw [hf] at hT H6 ⊢
          cases f with
          | some m =>
            have HF : Hid (few (l.drop k) (n + 1) a = some (l[j] :: m)) := Lib.hid (hfew.out.symm.trans hT)
            clear hT hf HTT
            simp only [Option.isSome_some, Option.getD_some] at H6 ⊢
            go_wp2
            go_ret
            rw [HF.out]
            exact ⟨v6, rfl, by have h := H6.out; rw [List.append_assoc] at h; exact h, HB6.out⟩
          | none =>
            have HF : Hid (few (l.drop (j + 1)) (n + 1) a = few (l.drop k) (n + 1) a) := Lib.hid (hT.symm.trans hfew.out)
            clear hT hf HTT
            simp only [Option.isSome_none, Option.getD_none, List.append_nil] at H6 ⊢
            obtain ⟨A6, c6, hv6⟩ := own_form H6.out.own
            subst hv6
            have hl6 : (pre ++ [l[j]]).length = pre.length + 1 := by simp
            have ho6 := H6.out.own
            have hb6 := H6.out.bx
            rw [hl6] at ho6 hb6
            rw [flatAp] at ho6
            have ho7 := own_trunc ho6 (flat_length pre)
            have cS := hb6.cell
            have fS := hb6.frozen
            have hcap : pre.length ≤ c6 := by
              rcases ho6.2 with ⟨_, h2⟩ | ⟨g, cap, cur, h1, _, _, hc, _⟩
              · cases h2
              · injection h1 with e1 e2 e3; omega
            have hsl := runDf_to A6 (pre.length + 1) c6 pre.length hcap
            have hpw : IntKind.i64.wrap (((pre.length + 1 : Nat) : Int) - 1) = (pre.length : Int) := by rw [IntKind.wrap_i64]; omega
            have H7 : Hid (Ch1 (w6.setCell ⟨B2, 0, none⟩ (.slice A6 pre.length c6)) n0 B1 B2 B3 (some ⟨b, o, none⟩) c l pre (.slice A6 pre.length c6)) := Lib.hid ⟨hb6.set _, own_setCell ho7 (fun e => hb6.not_row (by decide) ho7 e.symm) _, H6.out.fn.other H6.out.ne _, ((grownBy_setCell' w6 B2 _).cell H6.out.lst (fun e => by have := H6.out.n1; have := H6.out.n2; have e2 : B1 = B2 := Option.some.inj e; omega)), H6.out.sd.below ((Below.refl n0 w6).setCell (p := ⟨B2, 0, none⟩) H6.out.n2 _), H6.out.n1, H6.out.n2, H6.out.n3, H6.out.ne⟩
            have HB7 : Hid (Below n0 w (w6.setCell ⟨B2, 0, none⟩ (.slice A6 pre.length c6))) := Lib.hid (HB6.out.setCell (p := ⟨B2, 0, none⟩) H6.out.n2 _)
            clear ho6 ho7 hb6 hcap
            go_wp2
            go_roundw
            case rel => exact ⟨j + 1, _, by omega, by go_num, HF, H7, HB7⟩
            case measure => simp [intOf]; omega
      · obtain rfl : j = l.length := by omega
        have hi9 : ¬ (l.length : Int) < (l.length : Int) := by omega
        have HF : Hid (few (l.drop k) (n + 1) a = none) := Lib.hid (by rw [← hfew.out, List.drop_of_length_le (Nat.le_refl _)]; exact few_nil _ _)
        clear hfew
        go_wp2
        go_ret
        rw [HF.out]
        first
        | exact ⟨v, rfl, by simpa using H.out, hbel.out⟩
        | exact ⟨rfl, ⟨v, by simpa using H.out⟩, hbel.out⟩
end Go.Proofs.YtboehlffbibgmaaDoor
