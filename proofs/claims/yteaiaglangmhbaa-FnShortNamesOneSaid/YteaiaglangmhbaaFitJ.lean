import Derived.Test.YteaiaglangmhbaaFitI
namespace Go.Proofs.Yteaiaglangmhbaa
open Go.RowKit Go.Shelf
set_option linter.unusedVariables false
set_option linter.unusedSimpArgs false
set_option maxRecDepth 100000
attribute [local go_sem] Oper.semAt_some

theorem cells_not_row {W : World} {B base size k : Nat} {cs : Array Value} {t e : TypeId} {r : Nat × Nat} {v : Value} {xs : List Value} (h : W.heap[B]? = some (Obj.cells cs t r)) (hte : t ≠ e) (hr : W.ownsRow base e size v k xs) : some B ≠ v.ownBlock := by
  rcases hr.2 with ⟨rfl, _⟩ | ⟨g, cap, cur, rfl, _, hgb, _⟩
  · simp [Value.ownBlock]
  · intro e'
    obtain rfl : B = g := by simpa [Value.ownBlock] using e'
    rw [h] at hgb
    cases hgb
    exact hte rfl
/-- The box of a definition. -/
def Box2 (W : World) (B : Nat) (d : D) : Prop := W.heap[B]? = some (.cells #[.string d.name, .int .i64 d.val] 70 (0, 0))
theorem Box2.own {W W' : World} {row : Option Nat} {B : Nat} {d : D} (h : Box2 W B d) (hg : W.grownBy W' row) (hr : ∀ r, row = some r → ∃ o : Obj, W.heap[r]? = some o ∧ o.isCells = false) : Box2 W' B d :=
  (hg.block B (Array.getElem?_eq_some_iff.1 h).1 (fun e => by obtain ⟨o, ho, hc⟩ := hr B e.symm; rw [show W.heap[B]? = _ from h] at ho; cases ho; cases hc)).trans h
theorem Box2.cell {W : World} {B : Nat} {d : D} (h : Box2 W B d) : W.cell? ⟨B, 0, none⟩ = some (.string d.name) ∧ W.cell? ⟨B, 1, none⟩ = some (.int .i64 d.val) := by
  refine ⟨?_, ?_⟩ <;> simp [World.cell?, show W.heap[B]? = _ from h]

set_option maxHeartbeats 16000000 in
theorem implFitN_any (ds : List D) (b : Int) (x : Int) (A : Option Addr) (m c : Nat) (w : World) (hr : SD w w.heap.size A m c ds) (hn : m ≤ 1048576) :
    Calls Try.prog 13 #[.agg #[.slice A m c, .int .i64 b], .int .i64 x] w (StrsP (mFitN ds b x) w) := by
  have HF := Lib.hid (FB.start hr b)
  have HOK := Lib.hid hr.ok
  clear hr
  cases hv : mIsV ds b x
  · have HV := Lib.hid hv
    have HM : Hid (mFitN ds b x = []) := Lib.hid (if_no hv)
    clear hv
    go_enter Try.func13, Try.ntmps13
    go_wp2_with (go_at_call 36; refine (implIsV_v ds b x _ _ _ _ HF.out.sd hn HV.out).mono ?_; rintro e w' ⟨rfl, hb⟩)
    go_ret
    exact ⟨none, 0, by rw [HM.out]; rfl, by rw [HM.out]; exact World.ownsRow_nil _ _ _ _, HF.out.after hb⟩
  obtain ⟨p, rfl, hp⟩ := mIsV_nat hv
  have HV := Lib.hid hv
  have HM : Hid (mFitN ds b p = (mFit ds p).map (·.name)) := Lib.hid (by unfold mFitN; rw [hv, if_pos rfl, Int.toNat_natCast])
  have HIN : Hid (∀ d ∈ ds, inR d) := Lib.hid (vFlag_in (mIsV_flag hv))
  have hfl : (mFit ds p).length ≤ 12 := Nat.le_trans (mFit_len ds p) (vFlag_len (mIsV_flag hv))
  clear hv
  obtain ⟨i0, hi, hz0, hz1, hz2⟩ := info_parts info_S
  refine (callsIn_wide (n := 6)).1 ?_
  refine callsIn_of_wp_marks Try.func13 rfl trivial ?_ rfl
  simp only [Try.ntmps13, List.size_toArray, List.length_cons, List.length_nil, Nat.reduceAdd, Nat.reduceSub, Array.replicate_succ, Array.replicate_zero, List.push_toArray, List.append_toArray, List.nil_append, List.cons_append]
  gi_wp2_with (first
    | (refine ⟨trivial, ?_⟩; gi_at_call 36; refine (callsIn_wide.2 (implIsV_v ds b p _ _ _ _ HF.out.sd hn HV.out)).mono ?_; rintro e w1 ⟨rfl, hb⟩; have HF1 := Lib.hid (HF.out.call hb); have lf0 := keep1 ((Below.refl w1.heap.size w1).alloc (Nat.le_refl _) (.cells #[.slice none 0 0] 26)) HF1.out.c0)
    | (refine ⟨trivial, ?_⟩; gi_at_call 53; refine (fitOf_in _ _ _ _ _ _).mono ?_; rintro e w' ⟨rfl, rfl⟩))
  have bO := ((Boxed.new w1 26 (.slice none 0 0)).alloc (.cells #[.slice A m c] 76)).alloc (.cells #[.int .i64 (p : Int)] 78)
  have hb0 : Below w1.heap.size w1 (((w1.alloc (.cells #[.slice none 0 0] 26)).alloc (.cells #[.slice A m c] 76)).alloc (.cells #[.int .i64 (p : Int)] 78)) := (((Below.refl _ w1).alloc (Nat.le_refl _) _).alloc (by simp) _).alloc (by simp; omega) _
  have b1 : (((w1.alloc (.cells #[.slice none 0 0] 26)).alloc (.cells #[.slice A m c] 76)).alloc (.cells #[.int .i64 (p : Int)] 78)).cell? ⟨w1.heap.size + 1, 0, none⟩ = some (.slice A m c) := by simp [go_sem]
  have b2 : (((w1.alloc (.cells #[.slice none 0 0] 26)).alloc (.cells #[.slice A m c] 76)).alloc (.cells #[.int .i64 (p : Int)] 78)).cell? ⟨w1.heap.size + 1 + 1, 0, none⟩ = some (.int .i64 p) := by simp [go_sem]
  have hsz : (((w1.alloc (.cells #[.slice none 0 0] 26)).alloc (.cells #[.slice A m c] 76)).alloc (.cells #[.int .i64 (p : Int)] 78)).heap.size = w1.heap.size + 3 := by simp
  obtain ⟨W0, hW0⟩ : ∃ W0, ((w1.alloc (.cells #[.slice none 0 0] 26)).alloc (.cells #[.slice A m c] 76)).alloc (.cells #[.int .i64 (p : Int)] 78) = W0 := ⟨_, rfl⟩
  rw [hW0] at bO hb0 b1 b2 hsz ⊢
  have hS0 : SD W0 W0.heap.size A m c ds := (HF1.out.sd.below hb0).call hb0.size
  have hBW := HF1.out.bel
  clear hW0 lf0 hb HF
  refine wpIn_rangeFunc_ownH rfl (by omega) (gf := 94) (lb := #[.pointer (some ⟨w1.heap.size + 1, 0, none⟩), .pointer (some ⟨w1.heap.size + 1 + 1, 0, none⟩)]) rfl trivial (enters_of Try.func94 (by kernel_rfl) rfl)
    (fit_stops 5 (by omega) (w1.heap.size + 1) (w1.heap.size + 1 + 1) w1.heap.size m c p A ds HIN.out hn hp W0 (by omega) b1 b2 hS0)
    (fun h k => h.trans k) (fun W l o o' hl h hc hw => ⟨belowK_b (w := W0) (by omega) W l o o' hl h hc hw, fun g cs r hg => by
      have hne : g ≠ l := fun e => by subst e; rw [hg] at h; cases h; cases hc
      exact (World.putObj_heap_other (by first | exact hne | exact Ne.symm hne)).trans hg⟩) (Below.refl _ _) (fun _ => rfl)
    (fun pre W => (∃ v, Boxed W w1.heap.size 26 v ∧ W.ownsRow w1.heap.size 9 1 v pre.length (flatS (pre.map (·.name))) ∧ True) ∧ Below w1.heap.size w1 W)
    (fun _ _ _ => False)
    (OwnFrom.and (Own.from (holdsRow_own w1.heap.size w1.heap.size 26 9 1 (fun pre : List D => pre.length) (fun pre => flatS (pre.map (·.name))) (fun _ _ => True)) _) (ownFrom_below (Nat.le_refl _) (by omega)))
    (fun _ _ _ _ _ hs _ _ => hs)
    ⟨⟨_, bO, World.ownsRow_nil _ _ _ _, trivial⟩, hb0⟩
    (fun x a' W => ∃ Bx, w1.heap.size < Bx ∧ Box2 W Bx x ∧ a' = { tmps := #[.agg #[.slice A m c, .int .i64 b], .int .i64 p, .pointer (some ⟨w.heap.size, 0, none⟩), undef, .slice none 0 0, .pointer (some ⟨w1.heap.size, 0, none⟩), .pointer (some ⟨Bx, 0, none⟩), .agg #[.slice A m c, .int .i64 b], .int .i64 p, .bool true, .bool false, .pointer (some ⟨w.heap.size, 0, none⟩), .slice A m c, .int .i64 p, .func (.func 94) #[] #[.pointer (some ⟨w1.heap.size + 1, 0, none⟩), .pointer (some ⟨w1.heap.size + 1 + 1, 0, none⟩)], .agg #[.string x.name, .int .i64 x.val], undef, undef, undef, undef, undef, undef], defers := [] })
    (fun x a' _ X Y row hs hg hr => by obtain ⟨Bx, h1, h2, h3⟩ := hs; exact ⟨Bx, h1, h2.own hg (fun r e => (hr r e).2), h3⟩)
    ?assign ?body ?done ?stop
  case assign =>
    rintro l pre x W K ⟨⟨v, hv, hrow, _⟩, hB⟩ hK
    unfold encDv
    gi_wp2
    have hbW : Below W.heap.size W (W.alloc (.cells #[.string x.name, .int .i64 x.val] 70)) := (Below.refl _ W).alloc (Nat.le_refl _) _
    exact hK _ _ ((KeepsOthers.alloc _ _).from _) (KpD.below hbW hB.size) ⟨⟨v, hv.alloc _, hrow.alloc _, trivial⟩, hB.alloc hB.size _⟩ ⟨W.heap.size, hv.lt, World.alloc_heap_new W _, rfl⟩
  case body =>
    rintro l pre x a' W hl ⟨r, hr⟩ ⟨⟨v, hv, hrow, _⟩, hB⟩ ⟨Bx, hBx, bX, rfl⟩ hlt
    have cS := hv.cell
    obtain ⟨d0, d1⟩ := bX.cell
    have hpl : pre.length ≤ 12 := by omega
    gi_wp2_with (gi_at_builtin; refine wpListIn_append_own _ rfl _ _ 26 rfl w1.heap.size 9 i0 _ 1 16 Try.underlying26 hi hz0 hz1 hz2 rfl (by decide) v pre.length _ rfl (hrow.alloc _) ⟨W.heap.size, 0, none⟩ 1 1 [.string x.name] rfl rfl (cell_one_new _ _ _) (by simp [Value.oneCell']) (by unfold maxLen; omega) (by omega) (by have := hB.size; simp; omega) ?_; intro v' w5 ho hg _; obtain ⟨A5, c5, rfl⟩ := own_form ho; obtain ⟨hv2, hv3, hr3, hk3, hb3⟩ := hv.appended (by decide) hrow hB.size (Nat.le_refl _) ho hg; have cS5 := hv2.cell; have fS5 := hv2.frozen)
    refine ⟨hk3.from _, ⟨hb3, fun g cs rr hgd => ?_⟩, ⟨⟨_, hv3, by rw [List.map_append, List.length_append]; simpa [flatS, encS] using hr3, trivial⟩, hB.trans hb3⟩⟩
    have hlg := (Array.getElem?_eq_some_iff.1 hgd).1
    have h1 : (W.alloc (.cells #[.string x.name] 9)).heap[g]? = some (Obj.cells cs 70 rr) := (Below.heap_alloc _ _ _ hlg).trans hgd
    have h2 : w5.heap[g]? = some (Obj.cells cs 70 rr) := (hg.block g (by simp; omega) (cells_not_row hgd (by decide) hrow)).trans h1
    have h3 : g ≠ w1.heap.size := fun e => by
      subst e
      rw [show W.heap[w1.heap.size]? = _ from hv] at hgd
      cases hgd
    exact ((grownBy_setCell' w5 w1.heap.size (.slice A5 (pre.length + 1) c5)).block g (Array.getElem?_eq_some_iff.1 h2).1 (fun e => h3 (by injection e))).trans h2
  case done =>
    rintro D ys W hD hys ⟨⟨v, hv, hrow, _⟩, hB⟩ hK
    have cS := hv.cell
    subst hys
    obtain ⟨A', c', rfl⟩ := own_form hrow
    gi_wp2
    refine ⟨by simp, .inl ⟨_, _, rfl, run_takeDeferred hK, ?_⟩⟩
    refine ⟨_, results_tmp rfl _ _ _, A', c', by rw [HM.out, List.length_map]; rfl, ?_, ?_⟩
    · rw [HM.out, List.length_map]
      exact own_base (ownsRow_putObj hrow _ hK rfl) hBW.size
    · exact hBW.trans ((hB.trans (belowK_b (w := w1) (Nat.le_refl _) W D _ _ (by omega) hK rfl rfl)).mono hBW.size)
  case stop =>
    rintro D c pre W _ _ h _
    exact h.elim
end Go.Proofs.Yteaiaglangmhbaa
