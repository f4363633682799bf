import Derived.Test.YtnaojafidhloeaaLook
namespace Go.Proofs.Ytnaojafidhloeaa
open Go.RowKit Go.Maps
set_option linter.unusedVariables false
set_option maxRecDepth 100000

theorem intKey : Keyed Try.prog 3 := int_keyed Try.underlying3
theorem zeroInt (w : World) : (zeroValue 3).run Try.prog w = .ok (.int .i64 0) w := by kernel_rfl
theorem wf_in {x : Int} (h : -9223372036854775808 ≤ x ∧ x ≤ 9223372036854775807) : (Lit.int .i64 x).wf = true := WalkArith.wf_i64 (by omega)

/-- Block b of w is a map[int]int: f tells what each number leads to, -1 that it leads nowhere; it has cnt entries. -/
def IdxP (w : World) (b n : Nat) (f : Int → Int) (cnt : Nat) : Prop :=
  ∃ D : DataW Unit, w.ownsMap Try.prog 3 (plainElem Try.prog 3) b n D ∧ IsMap D ∧ Maps.size D = cnt ∧
    ∀ x, (f x < 0 → Maps.has D (.int .i64 x) = false) ∧ (0 ≤ f x → Maps.has D (.int .i64 x) = true ∧ D.atKey (.int .i64 x) (.lit (.int .i64 0)) = .lit (.int .i64 (f x)))

section
variable {w w' : World} {b n cnt : Nat} {f : Int → Int}
theorem IdxP.made (w : World) : IdxP (w.alloc (.map #[] 0)) w.heap.size 0 (fun _ => -1) 0 :=
  ⟨_, World.ownsMap_made w _ _ _, isMap_empty, rfl, fun x => ⟨fun _ => rfl, fun h => absurd h (by simp)⟩⟩
theorem IdxP.alloc (h : IdxP w b n f cnt) (o : Obj) : IdxP (w.alloc o) b n f cnt := by
  obtain ⟨D, h1, h2⟩ := h; exact ⟨D, h1.alloc o, h2⟩
theorem IdxP.below (h : IdxP w b n f cnt) (hb : Below w.heap.size w w') : IdxP w' b n f cnt := by
  obtain ⟨D, h1, h2⟩ := h
  exact ⟨D, h1.kept (row := none) ⟨hb.os, hb.tape, hb.output, hb.size, fun k hk _ => hb.block k hk⟩ (by simp), h2⟩
theorem IdxP.drewN (h : IdxP w b n f cnt) (N : Nat) : IdxP (w.drewN N) b n f cnt := h
theorem IdxP.drew (h : IdxP w b n f cnt) : IdxP w.drew b n f cnt := h
theorem IdxP.more (h : IdxP w b n f cnt) {n' : Nat} (hn : n ≤ n') : IdxP w b n' f cnt := by
  obtain ⟨D, h1, h2⟩ := h; exact ⟨D, h1.mono hn, h2⟩
theorem IdxP.lt (h : IdxP w b n f cnt) : b < w.heap.size := by obtain ⟨D, h1, h2⟩ := h; exact h1.lt
theorem IdxP.look_no (h : IdxP w b n f cnt) (x : Int) (hx : -9223372036854775808 ≤ x ∧ x ≤ 9223372036854775807) (hf : f x < 0) :
    (Instr.lookup 84 (.map (some b)) (.int .i64 x) true).run Try.prog w = .ok (.tuple #[.int .i64 0, .bool false]) w := by
  obtain ⟨D, h1, h2, _, h3⟩ := h
  obtain ⟨v, ps, hrun, hv⟩ := h1.look_ok intKey Try.underlying84 (zeroInt w) (plainElem_int Try.underlying3 (by decide)) (keyOf_int_mk Try.underlying3 (wf_in hx))
  have hh := (h3 x).1 hf
  rw [atKey_of_not_has hh] at hv
  obtain ⟨c, rfl, hc, _⟩ := plainElem_int_inv Try.underlying3 hv
  simp at hc
  rw [hrun, hh, ← hc.1]
theorem IdxP.look_yes (h : IdxP w b n f cnt) (x : Int) (hx : -9223372036854775808 ≤ x ∧ x ≤ 9223372036854775807) (hf : 0 ≤ f x) :
    (Instr.lookup 84 (.map (some b)) (.int .i64 x) true).run Try.prog w = .ok (.tuple #[.int .i64 (f x), .bool true]) w := by
  obtain ⟨D, h1, h2, _, h3⟩ := h
  obtain ⟨v, ps, hrun, hv⟩ := h1.look_ok intKey Try.underlying84 (zeroInt w) (plainElem_int Try.underlying3 (by decide)) (keyOf_int_mk Try.underlying3 (wf_in hx))
  obtain ⟨hh, ha⟩ := (h3 x).2 hf
  rw [ha] at hv
  obtain ⟨c, rfl, hc, _⟩ := plainElem_int_inv Try.underlying3 hv
  simp at hc
  rw [hrun, hh, ← hc.1]
theorem IdxP.look1 (h : IdxP w b n f cnt) (x : Int) (hx : -9223372036854775808 ≤ x ∧ x ≤ 9223372036854775807) (hf : 0 ≤ f x) :
    (Instr.lookup 84 (.map (some b)) (.int .i64 x) false).run Try.prog w = .ok (.int .i64 (f x)) w := by
  obtain ⟨D, h1, h2, _, h3⟩ := h
  obtain ⟨c, hrun, hc, _⟩ := h1.lookup_int intKey Try.underlying84 Try.underlying3 (zeroInt w) (keyOf_int_mk Try.underlying3 (wf_in hx))
  obtain ⟨hh, ha⟩ := (h3 x).2 hf
  rw [ha] at hc
  simp at hc
  rw [hrun, hc]
theorem IdxP.len_ (h : IdxP w b n f cnt) (ty : TypeId) : (Builtin.len_ #[84] ty #[.map (some b)]).run Try.prog w = .ok (.int .i64 cnt) w := by
  obtain ⟨D, h1, h2, h3, _⟩ := h
  have := h1.len Try.underlying84 ty
  rw [h3] at this
  exact this
theorem IdxP.put (h : IdxP w b n f cnt) (x k : Int) (hx : -9223372036854775808 ≤ x ∧ x ≤ 9223372036854775807) (hk : 0 ≤ k ∧ k ≤ 9223372036854775807) (hf : f x < 0) (hn : n < maxLen) :
    ∃ w', (Instr.mapUpdate 84 (.map (some b)) (.int .i64 x) (.int .i64 k)).run Try.prog w = .ok () w' ∧ IdxP w' b (n + 1) (fun y => if y = x then k else f y) (cnt + 1) ∧ w.grownBy w' (some b) := by
  obtain ⟨D, h1, h2, hs, h3⟩ := h
  obtain ⟨w', hrun, h4, h5⟩ := h1.update intKey Try.underlying84 hn (keyOf_int_mk Try.underlying3 (wf_in hx)) (plainElem_int Try.underlying3 (wf_in ⟨by omega, hk.2⟩))
  refine ⟨w', hrun, ⟨_, h4, h2.put _ _, ?_, fun y => ?_⟩, h5⟩
  · rw [size_put (h1.tidy intKey), (h3 x).1 hf, hs]; rfl
  · by_cases e : y = x
    · subst e
      refine ⟨fun h => absurd h (by simp; omega), fun _ => ⟨has_put_same h2 (show WideAt.IsKeyLit (Lit.int .i64 y) from trivial) _, ?_⟩⟩
      rw [atKey_put_same h2 (show WideAt.IsKeyLit (Lit.int .i64 y) from trivial)]
      simp
    · have ne : Lit.int .i64 y ≠ Lit.int .i64 x := fun h => e (by injection h)
      simp only [if_neg e]
      rw [has_put_other ne, atKey_put_other ne]
      exact h3 y
end

/-- The store at the operation, for the walk. -/
theorem wpList_idx_put (w : World) {ops : Array Oper} {rest : List Oper} {o : Oper} {a : Act} {Q : Exit → Act → World → Prop}
    (hg : o.guard = none) (m x v : Operand) (hop : o.op = Op.mapUpdate 84 m x v) (b n cnt : Nat) (f : Int → Int) (y k : Int)
    (hm : a.eval m = .map (some b)) (hown : IdxP w b n f cnt) (hn : n < maxLen) (hy : -9223372036854775808 ≤ y ∧ y ≤ 9223372036854775807) (hk : 0 ≤ k ∧ k ≤ 9223372036854775807) (hf : f y < 0) (hx : a.eval x = .int .i64 y) (hv : a.eval v = .int .i64 k)
    (hK : ∀ w', IdxP w' b (n + 1) (fun z => if z = y then k else f z) (cnt + 1) → w.grownBy w' (some b) → wpList Try.prog ops Q rest (a.put o.dst undef) w') :
    wpList Try.prog ops Q (o :: rest) a w := by
  refine wpList_plain hg fun K' hK' => ?_
  obtain ⟨w', hrun, r1, r2⟩ := hown.put y k hy hk hf hn
  unfold Oper.wp
  simp [execOp, hop, hm, hx, hv, hrun, Result.andThen]
  exact hK' _ _ (hK w' r1 r2)

def MapRes (ds : List D) (w : World) (e : Ending) (w' : World) : Prop :=
  e = .returned (.map (some w.heap.size)) ∧ IdxP w' w.heap.size ds.length (fun x => fidx (isVal x) ds) (memCnt ds ds.length) ∧ Below w.heap.size w w'

set_option maxHeartbeats 1000000 in
theorem memberIndexes_any (ds : List D) (A : Option Addr) (c n : Nat) (w : World) (hr : SD w w.heap.size A n c ds) :
    Calls Try.prog 91 #[.slice A n c] w (MapRes ds w) := by
  obtain rfl := hr.len
  have hl := hr.max
  have hl2 := hr.cap
  unfold maxLen at hl
  have HR := Lib.hid hr
  clear hr
  have hmm := fun (n : Int) => run_makeMap_hint (P := Try.prog) Try.underlying84 n
  go_enter Try.func91, Try.ntmps91
  go_wp2
  clear hmm
  have H0 : Hid (Below w.heap.size w (w.alloc (.map #[] 0))) := Lib.hid ((Below.refl _ _).alloc (Nat.le_refl _) _)
  have H1 : Hid (IdxP (w.alloc (.map #[] 0)) w.heap.size 0 (fun x => fidx (isVal x) (ds.take 0)) (memCnt ds 0)) := Lib.hid (IdxP.made w)
  go_loopw [13] (fun i wr => ∃ k : Nat, k ≤ ds.length ∧ i = .int .i64 k ∧ Hid (IdxP wr w.heap.size k (fun x => fidx (isVal x) (ds.take k)) (memCnt ds k)) ∧ Hid (Below w.heap.size w wr)) (fun i _ => ds.length - (intOf i).toNat)
  case atStart => exact ⟨0, Nat.zero_le _, rfl, H1, H0⟩
  case round =>
    clear H0 H1
    obtain ⟨k, hk, rfl, hidx, hbel⟩ := hrel
    by_cases hlt : k < ds.length
    · obtain ⟨b, o, rfl, hb, c1, c2⟩ := (HR.out.below hbel.out).at_ hlt
      have HV := Lib.hid (HR.out.ok _ (List.getElem_mem hlt)).2
      have HC := Lib.hid (memCnt_succ ds k hlt)
      rw [memAt_iff] at HC
      have hi1 : (k : Int) < (ds.length : Int) := by omega
      by_cases hx : fidx (isVal ds[k].val) (ds.take k) < 0
      · have hlk : ∀ o : Obj, (Instr.lookup 84 (.map (some w.heap.size)) (.int .i64 ds[k].val) true).run Try.prog (wr.alloc o) = .ok (.tuple #[.int .i64 0, .bool false]) (wr.alloc o) := fun o => (hidx.out.alloc o).look_no _ HV.out hx
        have HX := Lib.hid hx
        clear hx
        go_wp2_with (at_mapUpdate; refine wpList_idx_put _ rfl _ _ _ rfl _ _ _ _ _ _ rfl (hidx.out.alloc _) (by unfold maxLen; omega) HV.out (And.intro (by omega) (by omega)) HX.out rfl rfl ?_; intro w1 hp1 hg1; have HP1 := Lib.hid hp1; have HG1 := Lib.hid hg1; clear hp1 hg1)
        go_roundw
        case rel =>
          refine ⟨k + 1, by omega, by go_num, Lib.hid ?_, Lib.hid ((hbel.out.alloc hbel.out.size _).grown HG1.out (by have := hbel.out.size; simp; omega) (fun j hj => by cases hj; omega))⟩
          have e1 : (fun x => fidx (isVal x) (ds.take (k + 1))) = fun z => if z = ds[k].val then (k : Int) else fidx (isVal z) (ds.take k) := by
            funext x; exact step_new ds k hlt HX.out x
          have e2 : memCnt ds (k + 1) = memCnt ds k + 1 := by rw [HC.out, decide_eq_true HX.out]; rfl
          rw [e1, e2]
          exact HP1.out
        case measure => simp [intOf]; omega
      · have hlk : ∀ o : Obj, (Instr.lookup 84 (.map (some w.heap.size)) (.int .i64 ds[k].val) true).run Try.prog (wr.alloc o) = .ok (.tuple #[.int .i64 (fidx (isVal ds[k].val) (ds.take k)), .bool true]) (wr.alloc o) := fun o => (hidx.out.alloc o).look_yes _ HV.out (by omega)
        have HX := Lib.hid hx
        clear hx
        generalize fidx (isVal ds[k].val) (ds.take k) = q at hlk
        go_wp2
        go_roundw
        case rel =>
          refine ⟨k + 1, by omega, by go_num, Lib.hid ?_, Lib.hid (hbel.out.alloc hbel.out.size _)⟩
          rw [step_old ds k hlt HX.out, HC.out, decide_eq_false HX.out]
          exact ((hidx.out.alloc _).more (Nat.le_succ _))
        case measure => simp [intOf]; omega
    · obtain rfl : k = ds.length := by omega
      go_wp2
      go_ret
      refine ⟨rfl, ?_, hbel.out⟩
      have := hidx.out
      rw [List.take_of_length_le (Nat.le_refl _)] at this
      exact this
end Go.Proofs.Ytnaojafidhloeaa
