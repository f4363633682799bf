import Derived.Test.YtboehlffbibgmaaDoorFitK
import Derived.Test.YtboehlffbibgmaaDoorFewJ
namespace Go.Proofs.YtboehlffbibgmaaDoor
open Go.RowKit Go.Shelf
set_option linter.unusedVariables false
set_option linter.unusedSimpArgs false
set_option maxRecDepth 100000
attribute [local go_sem] Oper.semAt_some

theorem wpListIn_app_Dw {F : Fence} {k : Nat} {W : World} {ops : Array Oper} {rest : List Oper} {o : Oper} {a : Act} {Q : Exit → Act → World → Prop} (t : TypeId) (ht : Tryd.prog.underlying t = some (.slice 83)) (hgd : o.guard = none) (s x : Operand) (ho : o.op = .call { callee := .builtin .append, args := #[s, x], argTypes := #[t, t] })
    (base : Nat) (v : Value) (n : Nat) (xs : List Value) (hs : a.eval s = v) (hown : W.ownsRow base 83 2 v n xs) (nm : ByteArray) (vl : Int)
    (c g : Nat) (hx : a.eval x = .slice (some ⟨g, 0, none⟩) 1 c) (hgw : g = W.heap.size) (hn : n ≤ 2000000) (hbase : base ≤ W.heap.size)
    (h : ∀ v' w', w'.ownsRow base 83 2 v' (n + 1) (xs ++ [.string nm, .int .i64 vl]) → (W.alloc (.cells #[.string nm, .int .i64 vl] 83)).grownBy w' v.ownBlock → Where W v v' → wpListIn F k Tryd.prog ops Q rest (a.put o.dst v') w') :
    wpListIn F k Tryd.prog ops Q (o :: rest) a (W.alloc (.cells #[.string nm, .int .i64 vl] 83)) := by
  subst hgw
  refine wpListIn_plain hgd fun K hK' => ?_
  obtain ⟨v', w', hr, h2, h3, h4⟩ := run_app_Dw _ base t o.type ht v n xs (hown.alloc (.cells #[.string nm, .int .i64 vl] 83)) nm vl W.heap.size c (heap_alloc_new W _) hn (by simp; omega)
  unfold Oper.wpIn
  constructor
  · simp [Oper.about, ho, resolve, Target.leads, Sem.run_pure]
  · rw [Oper.semAt_plain F _ _ (by intro c hc; rw [ho] at hc; cases hc)]
    simp [execOp, ho, resolve, invoke, builtin, hs, hx, hr, Result.andThen]
    exact hK' _ _ (h v' w' h2 h3 (fun q hq hne => h4 q (by simp; omega) hne))

set_option maxHeartbeats 16000000 in
theorem appSeq_any (B1 B2 m c a : Nat) (A : Option Addr) (ds : List D) (hin : ∀ d ∈ ds, inR d) (hm : m ≤ 1048576) (ha : a < 4096) (w : World) (h1 : w.cell? ⟨B1, 0, none⟩ = some (.slice A m c)) (h2 : w.cell? ⟨B2, 0, none⟩ = some (.int .i64 a)) (hS : SD w w.heap.size A m c ds) (hl : ds.length ≤ 1000) :
    Calls Tryd.prog 107 #[.slice none 0 0, .func (.func 108) #[] #[.pointer (some ⟨B1, 0, none⟩), .pointer (some ⟨B2, 0, none⟩)]] w (DefsP (mFit ds a) w) := by
  have hfl : (mFit ds a).length ≤ 1000 := Nat.le_trans (mFit_len ds a) hl
  refine (callsIn_wide (n := 6)).1 ?_
  refine callsIn_of_wp_marks Tryd.func107 rfl trivial ?_ rfl
  simp only [Tryd.ntmps107, List.size_toArray, List.length_cons, List.length_nil, Nat.reduceAdd, Nat.reduceSub, Array.replicate_succ, Array.replicate_zero, List.push_toArray, List.append_toArray, List.nil_append, List.cons_append]
  gi_wp2
  have bO := Boxed.new w 27 (.slice none 0 0)
  have hb0 : Below w.heap.size w (w.alloc (.cells #[.slice none 0 0] 27)) := (Below.refl _ w).alloc (Nat.le_refl _) _
  have hsz : (w.alloc (.cells #[.slice none 0 0] 27)).heap.size = w.heap.size + 1 := by simp
  obtain ⟨W0, hW0⟩ : ∃ W0, w.alloc (.cells #[.slice none 0 0] 27) = W0 := ⟨_, rfl⟩
  rw [hW0] at bO hb0 hsz ⊢
  clear hW0
  have b1 := keep1 hb0 h1
  have b2 := keep1 hb0 h2
  have hS0 : SD W0 W0.heap.size A m c ds := (hS.below hb0).call hb0.size
  refine wpIn_rangeFunc_ownH rfl (by omega) (gf := 108) (lb := #[.pointer (some ⟨B1, 0, none⟩), .pointer (some ⟨B2, 0, none⟩)]) rfl trivial (enters_of Tryd.func108 (by kernel_rfl) rfl)
    (fitO_stops 5 (by omega) B1 B2 w.heap.size w.heap.size m c a A ds hin hm ha W0 (by omega) bO.cell b1 b2 hS0)
    (fun h k => h.trans k) (fun W l o o' hl h hc hw => ⟨belowK_b (w := W0) (by omega) W l o o' hl h hc hw, fun g hgs hno => by
      have hsl : w.heap.size ≠ l := by omega
      have hcell : (W.putObj l o').cell? ⟨w.heap.size, 0, none⟩ = W.cell? ⟨w.heap.size, 0, none⟩ := World.cell?_of_block (World.putObj_heap_other (by first | exact hsl | exact Ne.symm hsl))
      refine ⟨fun ⟨v, k1, k2⟩ => hno ⟨v, hcell.symm.trans k1, k2⟩, fun cs r hg => ?_⟩
      have hne : g ≠ l := fun e => by subst e; rw [hg] at h; cases h; cases hc
      exact (World.putObj_heap_other (by first | exact hne | exact Ne.symm hne)).trans hg⟩) (Below.refl _ _) (fun _ => rfl)
    (fun pre W => (∃ v, Boxed W w.heap.size 27 v ∧ W.ownsRow w.heap.size 83 2 v pre.length (flat pre) ∧ True) ∧ Below w.heap.size w W)
    (fun _ _ _ => False)
    (OwnFrom.and (Own.from (holdsRow_own w.heap.size w.heap.size 27 83 2 (fun pre : List D => pre.length) (fun pre => flat pre) (fun _ _ => True)) _) (ownFrom_below (Nat.le_refl _) (by omega)))
    (fun _ _ _ _ _ hs _ _ => hs)
    ⟨⟨_, bO, World.ownsRow_nil _ _ _ _, trivial⟩, hb0⟩
    (fun x a' W => ∃ Bx, w.heap.size < Bx ∧ (∃ v, Boxed W w.heap.size 27 v ∧ v.ownBlock ≠ some Bx) ∧ Box2 W Bx x ∧ a' = { tmps := #[.slice none 0 0, .func (.func 108) #[] #[.pointer (some ⟨B1, 0, none⟩), .pointer (some ⟨B2, 0, none⟩)], .pointer (some ⟨w.heap.size, 0, none⟩), undef, .slice none 0 0, .pointer (some ⟨Bx, 0, none⟩), .func (.func 108) #[] #[.pointer (some ⟨B1, 0, none⟩), .pointer (some ⟨B2, 0, none⟩)], .agg #[.string x.name, .int .i64 x.val], undef, undef, undef, undef, undef], defers := [] })
    (fun x a' _ X Y row hs hg hr => by obtain ⟨Bx, k1, ⟨v, k4, k5⟩, k2, k3⟩ := hs; exact ⟨Bx, k1, ⟨v, boxed_own w.heap.size 27 (fun (_ : Unit) => v) () X Y row k4 hg (fun r e => (hr r e).2), k5⟩, k2.own hg (fun r e => (hr r e).2), k3⟩)
    ?assign ?body ?done ?stop
  case assign =>
    rintro l pre x W K ⟨⟨v, hv, hrow, _⟩, hB⟩ hK
    unfold encDv
    gi_wp2
    have hbW : Below W.heap.size W (W.alloc (.cells #[.string x.name, .int .i64 x.val] 83)) := (Below.refl _ W).alloc (Nat.le_refl _) _
    exact hK _ _ ((KeepsOthers.alloc _ _).from _) (KpO.below hbW hB.size hv.lt) ⟨⟨v, hv.alloc _, hrow.alloc _, trivial⟩, hB.alloc hB.size _⟩ ⟨W.heap.size, hv.lt, ⟨v, hv.alloc _, fun e => by have := hrow.lt _ e; omega⟩, World.alloc_heap_new W _, rfl⟩
  case body =>
    rintro l pre x a' W hl2 ⟨r, hr⟩ ⟨⟨v, hv, hrow, _⟩, hB⟩ ⟨Bx, hBx, ⟨v2, hv2, hNE⟩, bX, rfl⟩ hlt
    have hvv : v = v2 := by have h := hv.symm.trans hv2; simpa using h
    rw [← hvv] at hNE
    clear hv2 hvv v2
    have cS := hv.cell
    obtain ⟨d0, d1⟩ := bX.cell
    have hpl : pre.length ≤ 1000 := by omega
    gi_wp2_with (gi_at_builtin; refine wpListIn_app_Dw _ rfl rfl _ _ rfl w.heap.size v pre.length _ rfl hrow _ _ _ _ rfl (by first | rfl | simp) (by omega) hB.size ?_; intro v' w5 ho hg hwh; obtain ⟨A5, c5, rfl⟩ := own_form ho; obtain ⟨hv2, hv3, hr3, hk3, hb3⟩ := hv.appended (by decide) hrow hB.size (Nat.le_refl _) ho hg; have cS5 := hv2.cell; have fS5 := hv2.frozen)
    refine ⟨hk3.from _, ⟨hb3, fun g hgs hno => ⟨fun ⟨u, k1, k2⟩ => ?_, fun cs rr hgd => ?_⟩⟩, ⟨⟨_, hv3, by rw [List.length_append, flatAp]; simpa [flat, encD] using hr3, trivial⟩, hB.trans hb3⟩⟩
    · rw [hv3.cell] at k1
      cases k1
      exact hwh g hgs (fun e => hno ⟨v, hv.cell, e⟩) k2
    · have hne : some g ≠ v.ownBlock := fun e => hno ⟨v, hv.cell, e.symm⟩
      have k1 : (W.alloc (.cells #[.string x.name, .int .i64 x.val] 83)).heap[g]? = some (Obj.cells cs 83 rr) := (Below.heap_alloc _ _ _ hgs).trans hgd
      have k2 : w5.heap[g]? = some (Obj.cells cs 83 rr) := (hg.block g (by simp; omega) hne).trans k1
      have k3 : g ≠ w.heap.size := fun e => by
        subst e
        rw [show W.heap[w.heap.size]? = _ from hv] at hgd
        cases hgd
      exact ((grownBy_setCell' w5 w.heap.size (.slice A5 (pre.length + 1) c5)).block g (Array.getElem?_eq_some_iff.1 k2).1 (fun e => k3 (by injection e))).trans k2
  case done =>
    rintro D ys W hD hys ⟨⟨v, hv, hrow, _⟩, hB⟩ hK
    have cS := hv.cell
    subst hys
    obtain ⟨A', c', rfl⟩ := own_form hrow
    gi_wp2
    refine ⟨by simp, .inl ⟨_, _, rfl, run_takeDeferred hK, ?_⟩⟩
    exact ⟨_, results_tmp rfl _ _ _, A', c', rfl, ownsRow_putObj hrow _ hK rfl, hB.trans (belowK_b (w := w) (Nat.le_refl _) W D _ _ (by omega) hK rfl rfl)⟩
  case stop =>
    rintro D c pre W _ _ h _
    exact h.elim
theorem collect_any (B1 B2 m c a : Nat) (A : Option Addr) (ds : List D) (hin : ∀ d ∈ ds, inR d) (hm : m ≤ 1048576) (ha : a < 4096) (w : World) (h1 : w.cell? ⟨B1, 0, none⟩ = some (.slice A m c)) (h2 : w.cell? ⟨B2, 0, none⟩ = some (.int .i64 a)) (hS : SD w w.heap.size A m c ds) (hl : ds.length ≤ 1000) :
    Calls Tryd.prog 85 #[.func (.func 108) #[] #[.pointer (some ⟨B1, 0, none⟩), .pointer (some ⟨B2, 0, none⟩)]] w (DefsP (mFit ds a) w) := by
  have HA := Lib.hid (appSeq_any B1 B2 m c a A ds hin hm ha w h1 h2 hS hl)
  unfold DefsP at HA
  clear h1 h2 hS
  go_enter Tryd.func85, Tryd.ntmps85
  go_wp2_with fail
  refine HA.out.mono ?_
  rintro e w1 ⟨A1, c1, rfl, ho, hb⟩
  have HO := Lib.hid ho
  have HB := Lib.hid hb
  clear ho hb HA
  go_wp2
  go_ret
  exact ⟨A1, c1, rfl, HO.out, HB.out⟩
theorem fitOf_any (A : Option Addr) (m c : Nat) (x : Int) (w : World) :
    Calls Tryd.prog 86 #[.slice A m c, .int .i64 x] w fun e w' => e = .returned (.func (.func 108) #[] #[.pointer (some ⟨w.heap.size, 0, none⟩), .pointer (some ⟨w.heap.size + 1, 0, none⟩)]) ∧ w' = (w.alloc (.cells #[.slice A m c] 56)).alloc (.cells #[.int .i64 x] 59) :=
  (callsIn_wide (n := 6)).1 (fitOf_in 6 A m c x w)
set_option maxHeartbeats 4000000 in
theorem shortest_any (ds : List D) (b : Int) (a : Nat) (A : Option Addr) (m c : Nat) (w : World) (hr : SD w w.heap.size A m c ds) (hin : ∀ d ∈ ds, inR d) (hn : m ≤ 1000) (ha : a < 4096) :
    Calls Tryd.prog 45 #[.agg #[.slice A m c, .int .i64 b], .int .i64 a] w (SdP (mShortL (mFit ds a)) w) := by
  have HF := Lib.hid (FB.start hr b)
  have HOK := Lib.hid hr.ok
  have hlen := hr.len
  have hdl : ds.length ≤ 1000 := by omega
  have hll : (mFit ds a).length ≤ 1000 := Nat.le_trans (mFit_len ds a) hdl
  clear hlen
  have HIN2 : Hid (∀ d ∈ mFit ds a, inR d) := Lib.hid fun d hd => hin d (mFit_mem hd)
  have HOK2 : Hid (∀ d ∈ mFit ds a, d.ok) := Lib.hid fun d hd => HOK.out d (mFit_mem hd)
  have c0 := HF.out.c0
  obtain ⟨w1, hw⟩ : ∃ W : World, W = w.alloc (.cells #[.slice A m c, .int .i64 b] 29) := ⟨_, rfl⟩
  clear hr
  go_enter Tryd.func45, Tryd.ntmps45
  go_wp2_with fail
  refine (fitOf_any _ _ _ _ _).mono ?_
  rintro e w2 ⟨rfl, hw2⟩
  have hb2 : Below w1.heap.size w1 w2 := by rw [hw2, hw]; exact ((Below.refl _ _).alloc (Nat.le_refl _) _).alloc (by simp) _
  have k1 : w2.cell? ⟨w1.heap.size, 0, none⟩ = some (.slice A m c) := by rw [hw2, hw]; simp [go_sem]
  have k2 : w2.cell? ⟨w1.heap.size + 1, 0, none⟩ = some (.int .i64 a) := by rw [hw2, hw]; simp [go_sem]
  have hS2 : SD w2 w2.heap.size A m c ds := ((show SD w1 w1.heap.size A m c ds by rw [hw]; exact HF.out.sd).below hb2).call hb2.size
  have HB2 : Hid (Below w.heap.size w w2) := Lib.hid ((show Below w.heap.size w w1 by rw [hw]; exact (Below.refl _ _).alloc (Nat.le_refl _) _).trans (hb2.mono (by rw [hw]; simp)))
  have HC := Lib.hid (collect_any w1.heap.size (w1.heap.size + 1) m c a A ds hin (by omega) ha w2 k1 k2 hS2 hdl)
  unfold DefsP at HC
  rw [← hw]
  clear hw hw2 hb2 k1 k2 hS2 c0
  go_wp2_with fail
  refine HC.out.mono ?_
  rintro e w3 ⟨A3, c3, rfl, ho, hb⟩
  have HS3 := Lib.hid (sd_of_own ho HOK2.out)
  have HB3 : Hid (Below w.heap.size w w3) := Lib.hid (HB2.out.trans (hb.mono HB2.out.size))
  clear ho hb HC HB2
  go_wp2_with fail
  refine (implFewest_any (mFit ds a) _ _ _ _ HS3.out HIN2.out hll).mono ?_
  rintro e w4 ⟨A4, c4, rfl, hs, hb⟩
  have HS4 := Lib.hid hs
  have HB4 := Lib.hid hb
  clear hs hb
  go_wp2
  go_ret
  exact ⟨A4, c4, rfl, HS4.out, HB3.out.trans (HB4.out.mono HB3.out.size)⟩
end Go.Proofs.YtboehlffbibgmaaDoor
