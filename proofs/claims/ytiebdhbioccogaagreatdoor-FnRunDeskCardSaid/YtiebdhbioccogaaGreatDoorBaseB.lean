import Derived.Test.YtiebdhbioccogaaGreatDoorBaseA
import Derived.Maps.OwnSet
import Derived.Maps.OwnOps
import Derived.Maps.Views
import Derived.Deep.AppendLies
import Derived.Deep.Quiet
import Derived.BigQuiet
import Derived.Lib.AppendZerosOnto
import Derived.Laws.BytesString
import Derived.Laws.Concat
namespace Go.Proofs.YtiebdhbioccogaaGreatDoor
open Go.RowKit Go.Maps
set_option linter.unusedVariables false
set_option maxRecDepth 100000

theorem run_makeMap_hint {P : Program} {t k e : TypeId} (h : P.underlying t = some (.map k e)) (n : Int) (w : World) :
    (Instr.makeMap t (some (.int .i64 n))).run P w = .ok (.map (some w.heap.size)) (w.alloc (.map #[] 0)) := by
  simp [Instr.makeMap, run_underlying h, asInt, asIntOf, go_sem]

theorem strKey : Keyed Tryz.prog 9 := string_keyed Tryz.underlying9
theorem zeroBool (w : World) : (zeroValue 4).run Tryz.prog w = .ok (.bool false) w := by kernel_rfl

/-- Block b of w is a set of names: a map[string]bool that holds true at just the names of which S says so. -/
def SetP (w : World) (b n : Nat) (S : ByteArray → Bool) : Prop :=
  ∃ D : DataW Unit, w.ownsMap Tryz.prog 9 (plainElem Tryz.prog 4) b n D ∧ IsMap D ∧ ∀ s : ByteArray, D.atKey (.string s.data.toList) (.lit (.bool false)) = .lit (.bool (S s))

theorem SetP.made (w : World) : SetP (w.alloc (.map #[] 0)) w.heap.size 0 (fun _ => false) :=
  ⟨_, World.ownsMap_made w _ _ _, isMap_empty, fun _ => rfl⟩
theorem SetP.alloc {w : World} {b n : Nat} {S : ByteArray → Bool} (h : SetP w b n S) (o : Obj) : SetP (w.alloc o) b n S := by
  obtain ⟨D, h1, h2⟩ := h; exact ⟨D, h1.alloc o, h2⟩
theorem SetP.below {w w' : World} {b n : Nat} {S : ByteArray → Bool} (h : SetP w b n S) (hb : Below w.heap.size w w') : SetP w' b n S := by
  obtain ⟨D, h1, h2⟩ := h
  exact ⟨D, h1.kept (row := none) ⟨hb.os, hb.tape, hb.output, hb.size, fun k hk _ => hb.block k hk⟩ (by simp), h2⟩
/-- m[s]: whether s is in the set. -/
theorem SetP.look {w : World} {b n : Nat} {S : ByteArray → Bool} (h : SetP w b n S) (s : ByteArray) (hs : s.size ≤ maxLen) :
    (Instr.lookup 214 (.map (some b)) (.string s) false).run Tryz.prog w = .ok (.bool (S s)) w := by
  obtain ⟨D, h1, h2, h3⟩ := h
  obtain ⟨v, ps, hrun, hv⟩ := h1.lookup strKey Tryz.underlying214 (zeroBool w) (plainElem_bool Tryz.underlying4 false) (Go.WideMaps.keyOf_string_mk Tryz.underlying9 hs)
  rw [h3 s] at hv
  unfold plainElem at hv
  rw [Tryz.underlying4] at hv
  cases v <;> simp at hv
  rw [hrun, hv.1]
/-- m[s] = true. -/
theorem SetP.put {w : World} {b n : Nat} {S : ByteArray → Bool} (h : SetP w b n S) (s : ByteArray) (hs : s.size ≤ maxLen) (hn : n < maxLen) :
    ∃ w', (Instr.mapUpdate 214 (.map (some b)) (.string s) (.bool true)).run Tryz.prog w = .ok () w' ∧ SetP w' b (n + 1) (fun t => t.toList == s.toList || S t) ∧ w.grownBy w' (some b) := by
  obtain ⟨D, h1, h2, h3⟩ := h
  obtain ⟨w', hrun, h4, h5⟩ := h1.update strKey Tryz.underlying214 hn (Go.WideMaps.keyOf_string_mk Tryz.underlying9 hs) (plainElem_bool Tryz.underlying4 true)
  refine ⟨w', hrun, ⟨_, h4, h2.put _ _, fun t => ?_⟩, h5⟩
  by_cases e : t = s
  · subst e
    rw [atKey_put_same h2 (show WideAt.IsKeyLit (Lit.string t.data.toList) from trivial)]
    simp
  · rw [atKey_put_other (fun e1 => e (by injection e1 with e1; exact WideShapes.bytes_inj e1)), h3 t]
    show _ = DataW.lit (Lit.bool (t.toList == s.toList || S t))
    rw [nm_false e]
    rfl

/-- The store at the operation, for the walk. -/
theorem wpList_set_put (w : World) {ops : Array Oper} {rest : List Oper} {o : Oper} {a : Act} {Q : Exit → Act → World → Prop}
    (hg : o.guard = none) (m x v : Operand) (hop : o.op = Op.mapUpdate 214 m x v) (b n : Nat) (S : ByteArray → Bool) (s : ByteArray)
    (hm : a.eval m = .map (some b)) (hown : SetP w b n S) (hn : n < maxLen) (hs : s.size ≤ maxLen) (hx : a.eval x = .string s) (hv : a.eval v = .bool true)
    (hK : ∀ w', SetP w' b (n + 1) (fun t => t.toList == s.toList || S t) → w.grownBy w' (some b) → wpList Tryz.prog ops Q rest (a.put o.dst undef) w') :
    wpList Tryz.prog ops Q (o :: rest) a w := by
  refine wpList_plain hg fun K' hK' => ?_
  obtain ⟨w', hrun, r1, r2⟩ := hown.put s hs hn
  unfold Oper.wp
  simp [execOp, hop, hm, hx, hv, hrun, Result.andThen]
  exact hK' _ _ (hK w' r1 r2)

theorem met_step (ds : List D) (k : Nat) (h : k < ds.length) : (fun t => t.toList == ds[k].name.toList || metTo ds k t) = metTo ds (k + 1) := by
  funext t
  unfold metTo
  rw [any_take_succ _ _ _ h, Bool.or_comm]
  congr 1
  unfold isNm
  rw [Bool.eq_iff_iff]; simp; exact eq_comm

set_option maxHeartbeats 2000000 in
theorem implVE (ds : List D) (A : Option Addr) (c n : Nat) (w : World) (hr : SD w w.heap.size A n c ds) :
    Calls Tryz.prog 139 #[.agg #[.slice A n c]] w fun e w' => e = .returned (.bool (vEnum ds)) ∧ Below w.heap.size w w' := by
  obtain rfl := hr.len
  have hl := hr.max
  have hl2 := hr.cap
  unfold maxLen at hl
  have HR := Lib.hid hr
  clear hr
  have hmm := fun (n : Int) => run_makeMap_hint (P := Tryz.prog) Tryz.underlying214 n
  by_cases h12 : 12 < ds.length
  · have hv : vEnum ds = false := by unfold vEnum vDefs; rw [decide_eq_false (p := ds.length ≤ 12) (by omega)]; simp
    have HV := Lib.hid hv
    clear hv
    go_enter Tryz.func139, Tryz.ntmps139
    go_wp2
    go_ret
    exact ⟨ret_bool HV.out.symm, (Below.refl _ _).alloc (Nat.le_refl _) _⟩
  · go_enter Tryz.func139, Tryz.ntmps139
    go_wp2
    clear hmm
    have H0 : Hid (Below w.heap.size w ((w.alloc (.cells #[.slice A ds.length c] 193)).alloc (.map #[] 0))) := Lib.hid (((Below.refl _ _).alloc (Nat.le_refl _) _).alloc (by simp) _)
    have H1 : Hid (SetP ((w.alloc (.cells #[.slice A ds.length c] 193)).alloc (.map #[] 0)) (w.heap.size + 1) 0 (metTo ds 0)) := Lib.hid (by have := SetP.made (w.alloc (.cells #[.slice A ds.length c] 193)); rw [World.size_alloc] at this; exact this)
    go_loopw [17] (fun i wr => ∃ k : Nat, k ≤ ds.length ∧ i = .int .i64 k ∧ Hid (goodTo (-1000) 1000 ds k) ∧ Hid (SetP wr (w.heap.size + 1) k (metTo ds k)) ∧ Hid (Below w.heap.size w wr)) (fun i _ => ds.length - (intOf i).toNat)
    case atStart => exact ⟨0, Nat.zero_le _, rfl, Lib.hid (goodTo_zero _ _ _), H1, H0⟩
    case round =>
      clear H0 H1
      obtain ⟨k, hk, rfl, hok, hset, hbel⟩ := hrel
      by_cases hlt : k < ds.length
      · obtain ⟨b, o, rfl, hb, c1, c2⟩ := (HR.out.below hbel.out).at_ hlt
        have HN := Lib.hid (HR.out.ok _ (List.getElem_mem hlt)).1
        have HG : Hid (goodAt (-1000) 1000 ds k ds[k] = (vName ds[k].name && (decide (-1000 ≤ ds[k].val) && decide (ds[k].val ≤ 1000)) && !metTo ds k ds[k].name)) := Lib.hid (by unfold goodAt metTo; rw [fidx_any])
        have hi1 : (k : Int) < (ds.length : Int) := by omega
        have hlk : ∀ o : Obj, (Instr.lookup 214 (.map (some (w.heap.size + 1))) (.string ds[k].name) false).run Tryz.prog (wr.alloc o) = .ok (.bool (metTo ds k ds[k].name)) (wr.alloc o) := fun o => (hset.out.alloc o).look _ HN.out
        cases hv : vName ds[k].name
        · have H1 := Lib.hid hv
          clear hv
          go_wp2_with (go_at_call 166; refine (implName_v _ _ HN.out H1.out).mono ?_; rintro e w' ⟨rfl, rfl⟩)
          go_ret
          exact ⟨ret_bool (vDefs_bad hlt (by rw [HG.out, H1.out]; rfl)).symm, hbel.out.alloc hbel.out.size _⟩
        · have H1 := Lib.hid hv
          clear hv
          cases hm : metTo ds k ds[k].name
          · rw [hm] at hlk
            have H2 := Lib.hid hm
            clear hm
            by_cases hlo : ds[k].val < -1000
            · go_wp2_with (go_at_call 166; refine (implName_v _ _ HN.out H1.out).mono ?_; rintro e w' ⟨rfl, rfl⟩)
              go_ret
              exact ⟨ret_bool (vDefs_bad hlt (by rw [HG.out, H1.out, H2.out]; simp; omega)).symm, hbel.out.alloc hbel.out.size _⟩
            · by_cases hhi : 1000 < ds[k].val
              · go_wp2_with (go_at_call 166; refine (implName_v _ _ HN.out H1.out).mono ?_; rintro e w' ⟨rfl, rfl⟩)
                go_ret
                exact ⟨ret_bool (vDefs_bad hlt (by rw [HG.out, H1.out, H2.out]; simp; omega)).symm, hbel.out.alloc hbel.out.size _⟩
              · have HS := fun o : Obj => Lib.hid (hset.out.alloc o)
                go_wp2_with (first | (go_at_call 166; refine (implName_v _ _ HN.out H1.out).mono ?_; rintro e w' ⟨rfl, rfl⟩) | (at_mapUpdate; refine wpList_set_put _ rfl _ _ _ rfl _ _ _ _ rfl (HS _).out (by unfold maxLen; omega) HN.out rfl rfl ?_; intro w1 hp1 hg1; have HP1 := Lib.hid hp1; have HG1 := Lib.hid hg1; clear hp1 hg1))
                go_roundw
                case rel => exact ⟨k + 1, by omega, by go_num, Lib.hid (goodTo_succ hok.out hlt (by rw [HG.out, H1.out, H2.out]; simp; omega)), Lib.hid (by rw [← met_step ds k hlt]; exact HP1.out), Lib.hid ((hbel.out.alloc hbel.out.size _).grown HG1.out (by have := hbel.out.size; simp; omega) (fun j hj => by cases hj; omega))⟩
                case measure => simp [intOf]; omega
          · rw [hm] at hlk
            have H2 := Lib.hid hm
            clear hm
            go_wp2_with (go_at_call 166; refine (implName_v _ _ HN.out H1.out).mono ?_; rintro e w' ⟨rfl, rfl⟩)
            go_ret
            exact ⟨ret_bool (vDefs_bad hlt (by rw [HG.out, H1.out, H2.out]; simp)).symm, hbel.out.alloc hbel.out.size _⟩
      · obtain rfl : k = ds.length := by omega
        have HE := Lib.hid (vDefs_end hok.out)
        go_wp2
        go_ret
        exact ⟨ret_bool (by unfold vEnum; rw [HE.out]; simp; omega), hbel.out⟩
end Go.Proofs.YtiebdhbioccogaaGreatDoor

namespace Go.Proofs.YtiebdhbioccogaaGreatDoor
open Go.RowKit Go.Maps
set_option linter.unusedVariables false
set_option maxRecDepth 100000

theorem implVE_v (ds : List D) (A : Option Addr) (c n : Nat) (w : World) (hr : SD w w.heap.size A n c ds) {v : Bool} (hv : vEnum ds = v) :
    Calls Tryz.prog 139 #[.agg #[.slice A n c]] w fun e w' => e = .returned (.bool v) ∧ Below w.heap.size w w' := hv ▸ implVE ds A c n w hr

/-! ### the program's ValueOf -/
def ValP (ds : List D) (p : D → Bool) (w : World) (e : Ending) (w' : World) : Prop :=
  ((noTo p ds ds.length ∧ e = .returned (.tuple #[.int .i64 0, .bool false])) ∨ ∃ k : Nat, ∃ h : k < ds.length, noTo p ds k ∧ p ds[k] = true ∧ e = .returned (.tuple #[.int .i64 ds[k].val, .bool true])) ∧ Below w.heap.size w w'

end Go.Proofs.YtiebdhbioccogaaGreatDoor

namespace Go.Proofs.YtiebdhbioccogaaGreatDoor
open Go.RowKit Go.Maps
set_option linter.unusedVariables false
set_option maxRecDepth 100000

theorem intKey : Keyed Tryz.prog 3 := int_keyed Tryz.underlying3
theorem zeroInt (w : World) : (zeroValue 3).run Tryz.prog w = .ok (.int .i64 0) w := by kernel_rfl
theorem wf_in {x : Int} (h : -9223372036854775808 ≤ x ∧ x ≤ 9223372036854775807) : (Lit.int .i64 x).wf = true := WalkArith.wf_i64 (by omega)

/-- Block b of w is a map[int]int: f tells what each number leads to, -1 that it leads nowhere; it has cnt entries. -/
def IdxP (w : World) (b n : Nat) (f : Int → Int) (cnt : Nat) : Prop :=
  ∃ D : DataW Unit, w.ownsMap Tryz.prog 3 (plainElem Tryz.prog 3) b n D ∧ IsMap D ∧ Maps.size D = cnt ∧
    ∀ x, (f x < 0 → Maps.has D (.int .i64 x) = false) ∧ (0 ≤ f x → Maps.has D (.int .i64 x) = true ∧ D.atKey (.int .i64 x) (.lit (.int .i64 0)) = .lit (.int .i64 (f x)))

section
variable {w w' : World} {b n cnt : Nat} {f : Int → Int}
theorem IdxP.made (w : World) : IdxP (w.alloc (.map #[] 0)) w.heap.size 0 (fun _ => -1) 0 :=
  ⟨_, World.ownsMap_made w _ _ _, isMap_empty, rfl, fun x => ⟨fun _ => rfl, fun h => absurd h (by simp)⟩⟩
theorem IdxP.alloc (h : IdxP w b n f cnt) (o : Obj) : IdxP (w.alloc o) b n f cnt := by
  obtain ⟨D, h1, h2⟩ := h; exact ⟨D, h1.alloc o, h2⟩
theorem IdxP.below (h : IdxP w b n f cnt) (hb : Below w.heap.size w w') : IdxP w' b n f cnt := by
  obtain ⟨D, h1, h2⟩ := h
  exact ⟨D, h1.kept (row := none) ⟨hb.os, hb.tape, hb.output, hb.size, fun k hk _ => hb.block k hk⟩ (by simp), h2⟩
theorem IdxP.drewN (h : IdxP w b n f cnt) (N : Nat) : IdxP (w.drewN N) b n f cnt := h
theorem IdxP.drew (h : IdxP w b n f cnt) : IdxP w.drew b n f cnt := h
theorem IdxP.more (h : IdxP w b n f cnt) {n' : Nat} (hn : n ≤ n') : IdxP w b n' f cnt := by
  obtain ⟨D, h1, h2⟩ := h; exact ⟨D, h1.mono hn, h2⟩
theorem IdxP.lt (h : IdxP w b n f cnt) : b < w.heap.size := by obtain ⟨D, h1, h2⟩ := h; exact h1.lt
theorem IdxP.look_no (h : IdxP w b n f cnt) (x : Int) (hx : -9223372036854775808 ≤ x ∧ x ≤ 9223372036854775807) (hf : f x < 0) :
    (Instr.lookup 199 (.map (some b)) (.int .i64 x) true).run Tryz.prog w = .ok (.tuple #[.int .i64 0, .bool false]) w := by
  obtain ⟨D, h1, h2, _, h3⟩ := h
  obtain ⟨v, ps, hrun, hv⟩ := h1.look_ok intKey Tryz.underlying199 (zeroInt w) (plainElem_int Tryz.underlying3 (by decide)) (keyOf_int_mk Tryz.underlying3 (wf_in hx))
  have hh := (h3 x).1 hf
  rw [atKey_of_not_has hh] at hv
  obtain ⟨c, rfl, hc, _⟩ := plainElem_int_inv Tryz.underlying3 hv
  simp at hc
  rw [hrun, hh, ← hc.1]
theorem IdxP.look_yes (h : IdxP w b n f cnt) (x : Int) (hx : -9223372036854775808 ≤ x ∧ x ≤ 9223372036854775807) (hf : 0 ≤ f x) :
    (Instr.lookup 199 (.map (some b)) (.int .i64 x) true).run Tryz.prog w = .ok (.tuple #[.int .i64 (f x), .bool true]) w := by
  obtain ⟨D, h1, h2, _, h3⟩ := h
  obtain ⟨v, ps, hrun, hv⟩ := h1.look_ok intKey Tryz.underlying199 (zeroInt w) (plainElem_int Tryz.underlying3 (by decide)) (keyOf_int_mk Tryz.underlying3 (wf_in hx))
  obtain ⟨hh, ha⟩ := (h3 x).2 hf
  rw [ha] at hv
  obtain ⟨c, rfl, hc, _⟩ := plainElem_int_inv Tryz.underlying3 hv
  simp at hc
  rw [hrun, hh, ← hc.1]
theorem IdxP.look1 (h : IdxP w b n f cnt) (x : Int) (hx : -9223372036854775808 ≤ x ∧ x ≤ 9223372036854775807) (hf : 0 ≤ f x) :
    (Instr.lookup 199 (.map (some b)) (.int .i64 x) false).run Tryz.prog w = .ok (.int .i64 (f x)) w := by
  obtain ⟨D, h1, h2, _, h3⟩ := h
  obtain ⟨c, hrun, hc, _⟩ := h1.lookup_int intKey Tryz.underlying199 Tryz.underlying3 (zeroInt w) (keyOf_int_mk Tryz.underlying3 (wf_in hx))
  obtain ⟨hh, ha⟩ := (h3 x).2 hf
  rw [ha] at hc
  simp at hc
  rw [hrun, hc]
theorem IdxP.len_ (h : IdxP w b n f cnt) (ty : TypeId) : (Builtin.len_ #[199] ty #[.map (some b)]).run Tryz.prog w = .ok (.int .i64 cnt) w := by
  obtain ⟨D, h1, h2, h3, _⟩ := h
  have := h1.len Tryz.underlying199 ty
  rw [h3] at this
  exact this
theorem IdxP.put (h : IdxP w b n f cnt) (x k : Int) (hx : -9223372036854775808 ≤ x ∧ x ≤ 9223372036854775807) (hk : 0 ≤ k ∧ k ≤ 9223372036854775807) (hf : f x < 0) (hn : n < maxLen) :
    ∃ w', (Instr.mapUpdate 199 (.map (some b)) (.int .i64 x) (.int .i64 k)).run Tryz.prog w = .ok () w' ∧ IdxP w' b (n + 1) (fun y => if y = x then k else f y) (cnt + 1) ∧ w.grownBy w' (some b) := by
  obtain ⟨D, h1, h2, hs, h3⟩ := h
  obtain ⟨w', hrun, h4, h5⟩ := h1.update intKey Tryz.underlying199 hn (keyOf_int_mk Tryz.underlying3 (wf_in hx)) (plainElem_int Tryz.underlying3 (wf_in ⟨by omega, hk.2⟩))
  refine ⟨w', hrun, ⟨_, h4, h2.put _ _, ?_, fun y => ?_⟩, h5⟩
  · rw [size_put (h1.tidy intKey), (h3 x).1 hf, hs]; rfl
  · by_cases e : y = x
    · subst e
      refine ⟨fun h => absurd h (by simp; omega), fun _ => ⟨has_put_same h2 (show WideAt.IsKeyLit (Lit.int .i64 y) from trivial) _, ?_⟩⟩
      rw [atKey_put_same h2 (show WideAt.IsKeyLit (Lit.int .i64 y) from trivial)]
      simp
    · have ne : Lit.int .i64 y ≠ Lit.int .i64 x := fun h => e (by injection h)
      simp only [if_neg e]
      rw [has_put_other ne, atKey_put_other ne]
      exact h3 y
end

/-- The store at the operation, for the walk. -/
theorem wpList_idx_put (w : World) {ops : Array Oper} {rest : List Oper} {o : Oper} {a : Act} {Q : Exit → Act → World → Prop}
    (hg : o.guard = none) (m x v : Operand) (hop : o.op = Op.mapUpdate 199 m x v) (b n cnt : Nat) (f : Int → Int) (y k : Int)
    (hm : a.eval m = .map (some b)) (hown : IdxP w b n f cnt) (hn : n < maxLen) (hy : -9223372036854775808 ≤ y ∧ y ≤ 9223372036854775807) (hk : 0 ≤ k ∧ k ≤ 9223372036854775807) (hf : f y < 0) (hx : a.eval x = .int .i64 y) (hv : a.eval v = .int .i64 k)
    (hK : ∀ w', IdxP w' b (n + 1) (fun z => if z = y then k else f z) (cnt + 1) → w.grownBy w' (some b) → wpList Tryz.prog ops Q rest (a.put o.dst undef) w') :
    wpList Tryz.prog ops Q (o :: rest) a w := by
  refine wpList_plain hg fun K' hK' => ?_
  obtain ⟨w', hrun, r1, r2⟩ := hown.put y k hy hk hf hn
  unfold Oper.wp
  simp [execOp, hop, hm, hx, hv, hrun, Result.andThen]
  exact hK' _ _ (hK w' r1 r2)

def MapRes (ds : List D) (w : World) (e : Ending) (w' : World) : Prop :=
  e = .returned (.map (some w.heap.size)) ∧ IdxP w' w.heap.size ds.length (fun x => fidx (isVal x) ds) (memCnt ds ds.length) ∧ Below w.heap.size w w'

set_option maxHeartbeats 1000000 in
theorem memberIndexes_any (ds : List D) (A : Option Addr) (c n : Nat) (w : World) (hr : SD w w.heap.size A n c ds) :
    Calls Tryz.prog 153 #[.slice A n c] w (MapRes ds w) := by
  obtain rfl := hr.len
  have hl := hr.max
  have hl2 := hr.cap
  unfold maxLen at hl
  have HR := Lib.hid hr
  clear hr
  have hmm := fun (n : Int) => run_makeMap_hint (P := Tryz.prog) Tryz.underlying199 n
  go_enter Tryz.func153, Tryz.ntmps153
  go_wp2
  clear hmm
  have H0 : Hid (Below w.heap.size w (w.alloc (.map #[] 0))) := Lib.hid ((Below.refl _ _).alloc (Nat.le_refl _) _)
  have H1 : Hid (IdxP (w.alloc (.map #[] 0)) w.heap.size 0 (fun x => fidx (isVal x) (ds.take 0)) (memCnt ds 0)) := Lib.hid (IdxP.made w)
  go_loopw [13] (fun i wr => ∃ k : Nat, k ≤ ds.length ∧ i = .int .i64 k ∧ Hid (IdxP wr w.heap.size k (fun x => fidx (isVal x) (ds.take k)) (memCnt ds k)) ∧ Hid (Below w.heap.size w wr)) (fun i _ => ds.length - (intOf i).toNat)
  case atStart => exact ⟨0, Nat.zero_le _, rfl, H1, H0⟩
  case round =>
    clear H0 H1
    obtain ⟨k, hk, rfl, hidx, hbel⟩ := hrel
    by_cases hlt : k < ds.length
    · obtain ⟨b, o, rfl, hb, c1, c2⟩ := (HR.out.below hbel.out).at_ hlt
      have HV := Lib.hid (HR.out.ok _ (List.getElem_mem hlt)).2
      have HC := Lib.hid (memCnt_succ ds k hlt)
      rw [memAt_iff] at HC
      have hi1 : (k : Int) < (ds.length : Int) := by omega
      by_cases hx : fidx (isVal ds[k].val) (ds.take k) < 0
      · have hlk : ∀ o : Obj, (Instr.lookup 199 (.map (some w.heap.size)) (.int .i64 ds[k].val) true).run Tryz.prog (wr.alloc o) = .ok (.tuple #[.int .i64 0, .bool false]) (wr.alloc o) := fun o => (hidx.out.alloc o).look_no _ HV.out hx
        have HX := Lib.hid hx
        clear hx
        go_wp2_with (at_mapUpdate; refine wpList_idx_put _ rfl _ _ _ rfl _ _ _ _ _ _ rfl (hidx.out.alloc _) (by unfold maxLen; omega) HV.out (And.intro (by omega) (by omega)) HX.out rfl rfl ?_; intro w1 hp1 hg1; have HP1 := Lib.hid hp1; have HG1 := Lib.hid hg1; clear hp1 hg1)
        go_roundw
        case rel =>
          refine ⟨k + 1, by omega, by go_num, Lib.hid ?_, Lib.hid ((hbel.out.alloc hbel.out.size _).grown HG1.out (by have := hbel.out.size; simp; omega) (fun j hj => by cases hj; omega))⟩
          have e1 : (fun x => fidx (isVal x) (ds.take (k + 1))) = fun z => if z = ds[k].val then (k : Int) else fidx (isVal z) (ds.take k) := by
            funext x; exact step_new ds k hlt HX.out x
          have e2 : memCnt ds (k + 1) = memCnt ds k + 1 := by rw [HC.out, decide_eq_true HX.out]; rfl
          rw [e1, e2]
          exact HP1.out
        case measure => simp [intOf]; omega
      · have hlk : ∀ o : Obj, (Instr.lookup 199 (.map (some w.heap.size)) (.int .i64 ds[k].val) true).run Tryz.prog (wr.alloc o) = .ok (.tuple #[.int .i64 (fidx (isVal ds[k].val) (ds.take k)), .bool true]) (wr.alloc o) := fun o => (hidx.out.alloc o).look_yes _ HV.out (by omega)
        have HX := Lib.hid hx
        clear hx
        generalize fidx (isVal ds[k].val) (ds.take k) = q at hlk
        go_wp2
        go_roundw
        case rel =>
          refine ⟨k + 1, by omega, by go_num, Lib.hid ?_, Lib.hid (hbel.out.alloc hbel.out.size _)⟩
          rw [step_old ds k hlt HX.out, HC.out, decide_eq_false HX.out]
          exact ((hidx.out.alloc _).more (Nat.le_succ _))
        case measure => simp [intOf]; omega
    · obtain rfl : k = ds.length := by omega
      go_wp2
      go_ret
      refine ⟨rfl, ?_, hbel.out⟩
      have := hidx.out
      rw [List.take_of_length_le (Nat.le_refl _)] at this
      exact this
end Go.Proofs.YtiebdhbioccogaaGreatDoor

namespace Go.Proofs.YtiebdhbioccogaaGreatDoor
open Go.RowKit Go.Maps
set_option linter.unusedVariables false
set_option maxRecDepth 100000

theorem info_S : (Tryz.prog.info? 9).map (fun i => (i.zero, i.size, i.bytes)) = some (some (.string ByteArray.empty), 1, 16) := by kernel_rfl
theorem info_I : (Tryz.prog.info? 3).map (fun i => (i.zero, i.size, i.bytes)) = some (some (.int .i64 0), 1, 8) := by kernel_rfl

/-- A region that draws its order, each operation of which yields one value in every world that holds what w holds: walked once. -/
theorem wp_region_still {P : Program} {id : Nat} {Q : Exit → Act → World → Prop} {a : Act} {w : World} {l : List Oper} (hm : P.follows .mixedOrders = true) (hB : Region.lexB .any l.toArray = true)
    (h : wpQuiet P l.toArray (fun w' => Below w.heap.size w w') (fun a' => ∀ w', Below w.heap.size w w' → Q .normal a' w') l a) : (Code.region id l.toArray true).wp P Q a w :=
  wp_region_quiet (C := fun w' => Below w.heap.size w w') hm hB ⟨rfl, rfl, rfl, Nat.le_refl _, fun _ _ => rfl⟩ (by simpa using h)

/-- 'append(out, x)', x one element: what it does to an owned row. -/
theorem wpList_app1 {P : Program} {W : World} {ops : Array Oper} {rest : List Oper} {o : Oper} {a : Act} {Q : Exit → Act → World → Prop} (hgd : o.guard = none) (s x : Operand) (t : TypeId)
    (ho : o.op = .call { callee := .builtin .append, args := #[s, x], argTypes := #[t, t] })
    (base : Nat) (e : TypeId) (i : TypeInfo) (z : Value) (size bytes : Nat) (ht : P.underlying t = some (.slice e)) (hi : P.info? e = some i ∧ i.zero = some z ∧ i.size = size ∧ i.bytes = bytes)
    (hzs : z.cells.size = size) (hsz : 0 < size) (hby : bytes ≤ 48)
    (v : Value) (n : Nat) (xs : List Value) (hs : a.eval s = v) (hown : W.ownsRow base e size v n xs) (cs : Array Value) (hcs : cs.size = size) (h1 : ∀ u ∈ cs.toList, u.oneCell' = true)
    (c g : Nat) (hx : a.eval x = .slice (some ⟨g, 0, none⟩) 1 c) (hgw : g = W.heap.size) (hn : n ≤ 2000000) (hbase : base ≤ W.heap.size)
    (h : ∀ v' w', w'.ownsRow base e size v' (n + 1) (xs ++ cs.toList) → Below base W w' → wpList P ops Q rest (a.put o.dst v') w') :
    wpList P ops Q (o :: rest) a (W.alloc (.cells cs e)) := by
  subst hgw
  refine wpList_append_own _ hgd s x t ho base e i z size bytes ht hi.1 hi.2.1 hi.2.2.1 hi.2.2.2 hzs hsz v n xs hs (hown.alloc _) ⟨W.heap.size, 0, none⟩ 1 c cs.toList hx (by simpa using hcs)
    (World.news_of_block (heap_alloc_new W _)) h1 (by unfold maxLen; omega) (by have : (n + 1) * bytes ≤ 2000001 * 48 := Nat.mul_le_mul (by omega) hby; omega) (by simp; omega) ?_
  intro v' w' h2 h3 _
  exact h v' w' h2 (((Below.refl _ _).alloc hbase _).grown h3 (by simp; omega) (fun k hk => (hown.lt k hk).1))

section
variable {W : World} {ops : Array Oper} {rest : List Oper} {o : Oper} {a : Act} {Q : Exit → Act → World → Prop}
theorem wpList_app_D (hgd : o.guard = none) (s x : Operand) (ho : o.op = .call { callee := .builtin .append, args := #[s, x], argTypes := #[33, 33] })
    (base : Nat) (v : Value) (n : Nat) (xs : List Value) (hs : a.eval s = v) (hown : W.ownsRow base 108 2 v n xs) (nm : ByteArray) (vl : Int)
    (c g : Nat) (hx : a.eval x = .slice (some ⟨g, 0, none⟩) 1 c) (hgw : g = W.heap.size) (hn : n ≤ 2000000) (hbase : base ≤ W.heap.size)
    (h : ∀ v' w', w'.ownsRow base 108 2 v' (n + 1) (xs ++ [.string nm, .int .i64 vl]) → Below base W w' → wpList Tryz.prog ops Q rest (a.put o.dst v') w') :
    wpList Tryz.prog ops Q (o :: rest) a (W.alloc (.cells #[.string nm, .int .i64 vl] 108)) := by
  obtain ⟨i0, hi, hz0, hz1, hz2⟩ := info_parts info_D
  exact wpList_app1 hgd s x _ ho base _ i0 _ 2 24 Tryz.underlying33 ⟨hi, hz0, hz1, hz2⟩ rfl (by omega) (by omega) v n xs hs hown _ rfl (by simp [Value.oneCell']) c g hx hgw hn hbase h
theorem wpList_app_S (hgd : o.guard = none) (s x : Operand) (ho : o.op = .call { callee := .builtin .append, args := #[s, x], argTypes := #[22, 22] })
    (base : Nat) (v : Value) (n : Nat) (xs : List Value) (hs : a.eval s = v) (hown : W.ownsRow base 9 1 v n xs) (nm : ByteArray)
    (c g : Nat) (hx : a.eval x = .slice (some ⟨g, 0, none⟩) 1 c) (hgw : g = W.heap.size) (hn : n ≤ 2000000) (hbase : base ≤ W.heap.size)
    (h : ∀ v' w', w'.ownsRow base 9 1 v' (n + 1) (xs ++ [.string nm]) → Below base W w' → wpList Tryz.prog ops Q rest (a.put o.dst v') w') :
    wpList Tryz.prog ops Q (o :: rest) a (W.alloc (.cells #[.string nm] 9)) := by
  obtain ⟨i0, hi, hz0, hz1, hz2⟩ := info_parts info_S
  exact wpList_app1 hgd s x _ ho base _ i0 _ 1 16 Tryz.underlying22 ⟨hi, hz0, hz1, hz2⟩ rfl (by omega) (by omega) v n xs hs hown _ rfl (by simp [Value.oneCell']) c g hx hgw hn hbase h
theorem wpList_app_I (hgd : o.guard = none) (s x : Operand) (ho : o.op = .call { callee := .builtin .append, args := #[s, x], argTypes := #[53, 53] })
    (base : Nat) (v : Value) (n : Nat) (xs : List Value) (hs : a.eval s = v) (hown : W.ownsRow base 3 1 v n xs) (vl : Int)
    (c g : Nat) (hx : a.eval x = .slice (some ⟨g, 0, none⟩) 1 c) (hgw : g = W.heap.size) (hn : n ≤ 2000000) (hbase : base ≤ W.heap.size)
    (h : ∀ v' w', w'.ownsRow base 3 1 v' (n + 1) (xs ++ [.int .i64 vl]) → Below base W w' → wpList Tryz.prog ops Q rest (a.put o.dst v') w') :
    wpList Tryz.prog ops Q (o :: rest) a (W.alloc (.cells #[.int .i64 vl] 3)) := by
  obtain ⟨i0, hi, hz0, hz1, hz2⟩ := info_parts info_I
  exact wpList_app1 hgd s x _ ho base _ i0 _ 1 8 Tryz.underlying53 ⟨hi, hz0, hz1, hz2⟩ rfl (by omega) (by omega) v n xs hs hown _ rfl (by simp [Value.oneCell']) c g hx hgw hn hbase h
end

theorem own_form {w : World} {base : Nat} {e : TypeId} {sz : Nat} {v : Value} {n : Nat} {xs : List Value} (h : w.ownsRow base e sz v n xs) : ∃ A c, v = .slice A n c := by
  rcases h.2 with ⟨rfl, rfl⟩ | ⟨g, cap, cur, rfl, _⟩
  · exact ⟨none, 0, rfl⟩
  · exact ⟨_, cap, rfl⟩

/-! ### the model's members -/
/-- The definitions of members among the first k. -/
def memTo (ds : List D) : Nat → List D
  | 0 => []
  | k + 1 => memTo ds k ++ (match ds[k]? with | some d => if memAt ds k d then [d] else [] | none => [])
theorem memTo_succ (ds : List D) (k : Nat) (h : k < ds.length) : memTo ds (k + 1) = memTo ds k ++ if memAt ds k ds[k] then [ds[k]] else [] := by
  show memTo ds k ++ _ = _
  rw [List.getElem?_eq_getElem h]
theorem memTo_len (ds : List D) (k : Nat) : (memTo ds k).length = memCnt ds k := by
  induction k with
  | zero => rfl
  | succ k ih =>
    unfold memTo memCnt
    rw [List.length_append, ih]
    cases ds[k]? with
    | none => rfl
    | some d => by_cases h : memAt ds k d <;> simp [h]
theorem memTo_in (ds : List D) (k : Nat) : ∀ d ∈ memTo ds k, d ∈ ds := by
  induction k with
  | zero => intro d h; cases h
  | succ k ih =>
    intro d h
    unfold memTo at h
    rcases List.mem_append.1 h with h | h
    · exact ih d h
    · cases e : ds[k]? with
      | none => rw [e] at h; cases h
      | some x =>
        rw [e] at h
        by_cases hm : memAt ds k x
        · simp [hm] at h; subst h; exact List.mem_of_getElem? e
        · simp [hm] at h
def mems (ds : List D) : List D := memTo ds ds.length
/-- The first definition with its value is a member. -/
theorem mem_first (ds : List D) (k : Nat) (h : k < ds.length) : (fidx (isVal ds[k].val) ds == (k : Int)) = memAt ds k ds[k] := by
  rw [memAt_iff]
  rcases fidx_cases (isVal ds[k].val) (ds.take k) with ⟨h1, hn⟩ | ⟨j, hj, h1, hp, hn⟩
  · rw [h1]
    have hl : (ds.take k).length = k := by simp; omega
    have : noTo (isVal ds[k].val) ds k := fun i hi hik => by have := hn i (by omega) (by omega); simpa using this
    rw [fidx_some this h (by unfold isVal; simp)]
    simp
  · rw [h1]
    have hl : (ds.take k).length = k := by simp; omega
    have : noTo (isVal ds[k].val) ds j := fun i hi hik => by have := hn i (by omega) hik; simpa using this
    rw [fidx_some this (by omega) (by simpa using hp)]
    rw [beq_eq_false_iff_ne.2 (by omega), decide_eq_false (by omega)]

def DefsP (ms : List D) (w : World) (e : Ending) (w' : World) : Prop :=
  ∃ A c, e = .returned (.slice A ms.length c) ∧ w'.ownsRow w.heap.size 108 2 (.slice A ms.length c) ms.length (flat ms) ∧ Below w.heap.size w w'

end Go.Proofs.YtiebdhbioccogaaGreatDoor

namespace Go.Proofs.YtiebdhbioccogaaGreatDoor
open Go.RowKit
set_option linter.unusedVariables false
set_option maxRecDepth 100000

section
variable {P : Program} (w : World)

theorem run_append_room_zeros (t tn ty e : TypeId) (i : TypeInfo) (z : Value) (kq kn : IntKind) (ht : P.underlying t = some (.slice e)) (htn : P.underlying tn = some (.int kn)) (hi : P.info? e = some i) (hz : i.zero = some z)
    (g sLen sCap : Nat) (cur : Array Value) (hg : w.heap[g]? = some (.cells cur e (0, 0))) (m : Nat) (h0 : 0 < m) (hs : 0 < i.size) (hm : m ≤ 1000) (h48 : m * i.bytes ≤ 281474976710656) (hzs : z.cells.size = i.size)
    (h1 : ∀ u ∈ (Builtin.zeroCells z.cells m).toList, u.oneCell' = true) (hroom : sLen + m ≤ sCap) (hfit : sLen * i.size + m * i.size ≤ cur.size) :
    (Builtin.append_ #[t, tn] ty #[.slice (some ⟨g, 0, none⟩) sLen sCap, .int kq m]).run P w =
      .ok (.slice (some ⟨g, 0, none⟩) (sLen + m) sCap) (w.setRow g (cur.toList.take (sLen * i.size) ++ (Builtin.zeroCells z.cells m).toList ++ cur.toList.drop (sLen * i.size + (Builtin.zeroCells z.cells m).toList.length)).toArray) := by
  have hw : IntKind.i64.wrap (m : Int) = m := by rw [IntKind.wrap_i64]; omega
  have h48i : ¬ (281474976710656 < (m : Int) * (i.bytes : Int)) := by
    rw [← Int.natCast_mul]
    omega
  have hneg : ¬ ((m : Int) < 0) := by omega
  have hk : m ≠ 0 := by omega
  have hns : ¬ (m * i.size = 0) := Nat.mul_ne_zero hk (by omega)
  have hl : (Builtin.zeroCells z.cells m).toList.length = m * i.size := by rw [Array.length_toList, size_zeroCells, hzs]
  have hst := run_storeCells_at P g (sLen * i.size) e (Builtin.zeroCells z.cells m).toList 0 cur w hg (by rw [hl]; simpa using hfit) h1
  simp only [Nat.add_zero] at hst
  generalize hzc : Builtin.zeroCells z.cells m = zc at *
  simp [Builtin.append_, run_underlying ht, run_underlying htn, sizeOf, typeInfo, zeroValue, hi, hz, asInt, asIntOf, hw, hneg, hns, h48i, hroom, hzc, Addr.add_lit, hst]

theorem run_append_own_zeros (base : Nat) (t tn ty e : TypeId) (i : TypeInfo) (z : Value) (kq kn : IntKind) (size bytes : Nat) (ht : P.underlying t = some (.slice e)) (htn : P.underlying tn = some (.int kn)) (hi : P.info? e = some i) (hz : i.zero = some z)
    (hsize : i.size = size) (hby : i.bytes = bytes) (hzs : z.cells.size = size) (hsz : 0 < size)
    (v : Value) (n : Nat) (xs : List Value) (hown : w.ownsRow base e size v n xs)
    (m : Nat) (h0 : 0 < m) (hm : m ≤ 1000) (h1 : ∀ u ∈ (Builtin.zeroCells z.cells m).toList, u.oneCell' = true)
    (h63 : n + m ≤ maxLen) (hbytes : (n + m) * bytes ≤ 140737488355328) (hbase : base ≤ w.heap.size) :
    ∃ v' w', (Builtin.append_ #[t, tn] ty #[v, .int kq m]).run P w = .ok v' w' ∧ w'.ownsRow base e size v' (n + m) (xs ++ (Builtin.zeroCells z.cells m).toList) ∧ w.grownBy w' v.ownBlock := by
  subst hsize
  subst hby
  have hsmall : n + m ≤ 9223372036854775807 := by simp only [maxLen] at h63; omega
  have hl : (Builtin.zeroCells z.cells m).toList.length = m * i.size := by rw [Array.length_toList, size_zeroCells, hzs]
  have hlen : (xs ++ (Builtin.zeroCells z.cells m).toList).length = (n + m) * i.size := by rw [List.length_append, hown.1, hl, Nat.add_mul]
  have hmb : m * i.bytes ≤ 140737488355328 := Nat.le_trans (Nat.mul_le_mul_right _ (by omega)) hbytes
  have grown : ∀ (old : Nat), ∀ (row : Option Nat),
      (w.drew.alloc (.cells (xs.toArray ++ Builtin.zeroCells z.cells m ++ Builtin.zeroCells z.cells (grownCap w (n + m) old e - (n + m))) e)).ownsRow base e i.size
        (.slice (some ⟨w.heap.size, 0, none⟩) (n + m) (grownCap w (n + m) old e)) (n + m) (xs ++ (Builtin.zeroCells z.cells m).toList) ∧
      w.grownBy (w.drew.alloc (.cells (xs.toArray ++ Builtin.zeroCells z.cells m ++ Builtin.zeroCells z.cells (grownCap w (n + m) old e - (n + m))) e)) row := by
    intro old row
    have hge := grownCap_ge w (n + m) old e
    have hcm : grownCap w (n + m) old e ≤ maxLen := grownCap_le_maxLen w (n + m) old e h63
    refine ⟨⟨hlen, .inr ⟨w.heap.size, _, _, rfl, hbase, heap_alloc_new w.drew _, hge, hcm, ?_, ?_⟩⟩, ⟨rfl, rfl, rfl, by simp, fun k hk _ => heap_alloc_old w.drew _ hk⟩⟩
    · simp only [Array.size_append, List.size_toArray, size_zeroCells, hzs, hown.1, ← Nat.add_mul]
      congr 1
      omega
    · simp only [Array.toList_append, List.append_assoc]
      rw [← List.append_assoc, ← hlen]
      exact List.take_left
  rcases hown.2 with ⟨rfl, rfl⟩ | ⟨g, cap, cur, rfl, hbg, hg, hnc, hcm, hcs, htake⟩
  · have hx : xs = [] := List.eq_nil_of_length_eq_zero (by simpa using hown.1)
    subst hx
    have hr := Lib.run_append_nil_zeros (P := P) w t tn ty e i z kq kn ht htn hi hz m h0 hsz (by omega) (by omega)
    have hgr := grown 0 (Value.ownBlock (.slice none 0 0))
    simp only [Nat.zero_add, List.nil_append, Array.empty_append] at hgr ⊢
    exact ⟨_, _, hr, hgr.1, hgr.2⟩
  · by_cases hroom : n + m ≤ cap
    · have hfit : n * i.size + m * i.size ≤ cur.size := by rw [hcs, ← Nat.add_mul]; exact Nat.mul_le_mul_right _ hroom
      have hr := run_append_room_zeros (P := P) w t tn ty e i z kq kn ht htn hi hz g n cap cur hg m h0 hsz hm (by omega) hzs h1 hroom hfit
      refine ⟨_, _, hr, ⟨hlen, .inr ⟨g, cap, _, rfl, hbg, setRow_heap w g cur _ e _ hg, hroom, hcm, ?_, ?_⟩⟩, ⟨rfl, rfl, rfl, by simp, fun k _ hk => setRow_other w g k _ (fun e => hk (by simp [Value.ownBlock, e]))⟩⟩
      · simp only [List.size_toArray, List.length_append, List.length_take, List.length_drop, hl, Array.length_toList]
        omega
      · rw [htake, ← hlen]
        exact List.take_left
    · have holds : ∀ j u, xs[j]? = some u → w.cell? ((⟨g, 0, none⟩ : Addr).add j) = some u := hown.cells (g := g) rfl
      have hf := run_firstCells_some (P := P) w.drew i.size n ⟨g, 0, none⟩ n cap xs hown.1 (by simpa using holds)
      have hr := Lib.run_append_grow_zeros (P := P) w t tn ty e i z kq kn ht htn hi hz (some ⟨g, 0, none⟩) n cap xs hf m h0 hsz (by omega) (by omega) (by omega) (growslice_fits (by omega) hbytes)
      have hgr := grown cap (Value.ownBlock (.slice (some ⟨g, 0, none⟩) n cap))
      exact ⟨_, _, hr, hgr.1, hgr.2⟩

theorem wpList_append_own_zeros {ops : Array Oper} {rest : List Oper} {o : Oper} {a : Act} {Q : Exit → Act → World → Prop} (hgd : o.guard = none) (s x : Operand) (t tn : TypeId)
    (ho : o.op = .call { callee := .builtin .append, args := #[s, x], argTypes := #[t, tn] })
    (base : Nat) (e : TypeId) (i : TypeInfo) (z : Value) (kq kn : IntKind) (size bytes : Nat) (ht : P.underlying t = some (.slice e)) (htn : P.underlying tn = some (.int kn)) (hi : P.info? e = some i) (hz : i.zero = some z)
    (hsize : i.size = size) (hby : i.bytes = bytes) (hzs : z.cells.size = size) (hsz : 0 < size)
    (v : Value) (n : Nat) (xs : List Value) (hs : a.eval s = v) (hown : w.ownsRow base e size v n xs)
    (m : Nat) (hx : a.eval x = .int kq m) (h0 : 0 < m) (hm : m ≤ 1000) (h1 : ∀ u ∈ (Builtin.zeroCells z.cells m).toList, u.oneCell' = true)
    (h63 : n + m ≤ maxLen) (hbytes : (n + m) * bytes ≤ 140737488355328) (hbase : base ≤ w.heap.size)
    (h : ∀ v' w', w'.ownsRow base e size v' (n + m) (xs ++ (Builtin.zeroCells z.cells m).toList) → w.grownBy w' v.ownBlock → wpList P ops Q rest (a.put o.dst v') w') : wpList P ops Q (o :: rest) a w := by
  obtain ⟨v', w', hr, h2, h3⟩ := run_append_own_zeros (P := P) w base t tn o.type e i z kq kn size bytes ht htn hi hz hsize hby hzs hsz v n xs hown m h0 hm h1 h63 hbytes hbase
  exact Lib.wpList_append_run w hgd s x t tn ho v _ hs hx v' w' hr (h v' w' h2 h3)
end

/-- 'append(out, x)', x one definition; what else has changed is told by block. -/
theorem wpList_app_Dg {W : World} {ops : Array Oper} {rest : List Oper} {o : Oper} {a : Act} {Q : Exit → Act → World → Prop} (hgd : o.guard = none) (s x : Operand) (ho : o.op = .call { callee := .builtin .append, args := #[s, x], argTypes := #[33, 33] })
    (base : Nat) (v : Value) (n : Nat) (xs : List Value) (hs : a.eval s = v) (hown : W.ownsRow base 108 2 v n xs) (nm : ByteArray) (vl : Int)
    (c g : Nat) (hx : a.eval x = .slice (some ⟨g, 0, none⟩) 1 c) (hgw : g = W.heap.size) (hn : n ≤ 2000000) (hbase : base ≤ W.heap.size)
    (h : ∀ v' w', w'.ownsRow base 108 2 v' (n + 1) (xs ++ [.string nm, .int .i64 vl]) → W.grownBy w' v.ownBlock → wpList Tryz.prog ops Q rest (a.put o.dst v') w') :
    wpList Tryz.prog ops Q (o :: rest) a (W.alloc (.cells #[.string nm, .int .i64 vl] 108)) := by
  obtain ⟨i0, hi, hz0, hz1, hz2⟩ := info_parts info_D
  subst hgw
  refine wpList_append_own _ hgd s x _ ho base _ i0 _ 2 24 Tryz.underlying33 hi hz0 hz1 hz2 rfl (by omega) v n xs hs (hown.alloc _) ⟨W.heap.size, 0, none⟩ 1 c [.string nm, .int .i64 vl] hx rfl
    (World.news_of_block (heap_alloc_new W _)) (by simp [Value.oneCell']) (by unfold maxLen; omega) (by omega) (by simp; omega) ?_
  intro v' w' h2 h3 _
  exact h v' w' h2 ((World.grownBy_alloc _ _ _).trans h3)
theorem wpList_app_Z {W : World} {ops : Array Oper} {rest : List Oper} {o : Oper} {a : Act} {Q : Exit → Act → World → Prop} (hgd : o.guard = none) (s x : Operand) (ho : o.op = .call { callee := .builtin .append, args := #[s, x], argTypes := #[33, 3] })
    (base : Nat) (v : Value) (n : Nat) (xs : List Value) (hs : a.eval s = v) (hown : W.ownsRow base 108 2 v n xs) (m : Nat)
    (hx : a.eval x = .int .i64 m) (h0 : 0 < m) (hm : m ≤ 1000) (hn : n ≤ 2000000) (hbase : base ≤ W.heap.size)
    (h : ∀ v' w', w'.ownsRow base 108 2 v' (n + m) (xs ++ flat (List.replicate m ⟨ByteArray.empty, 0⟩)) → W.grownBy w' v.ownBlock → wpList Tryz.prog ops Q rest (a.put o.dst v') w') :
    wpList Tryz.prog ops Q (o :: rest) a W := by
  obtain ⟨i0, hi, hz0, hz1, hz2⟩ := info_parts info_D
  have hz : (Builtin.zeroCells (Value.agg #[.string ByteArray.empty, .int .i64 0]).cells m).toList = flat (List.replicate m ⟨ByteArray.empty, 0⟩) := by
    have hc : (Value.agg #[.string ByteArray.empty, .int .i64 0]).cells = #[.string ByteArray.empty, .int .i64 0] := by rfl
    rw [hc]
    apply List.ext_getElem?
    intro i
    unfold Builtin.zeroCells
    by_cases hi : i < m * 2
    · have hk : i / 2 < (List.replicate m (⟨ByteArray.empty, 0⟩ : D)).length := by simp; omega
      have h2 := flat_get (List.replicate m (⟨ByteArray.empty, 0⟩ : D)) (i / 2) hk
      have hr : ∀ (f : Nat → Value), ((Array.range (m * 2)).map f).toList[i]? = some (f i) := fun f => by simp [hi]
      show ((Array.range (m * 2)).map _).toList[i]? = _
      rw [hr]
      rcases Nat.mod_two_eq_zero_or_one i with e | e
      · have e2 : (flat (List.replicate m (⟨ByteArray.empty, 0⟩ : D)))[i]? = _ := (congrArg (fun q => (flat (List.replicate m (⟨ByteArray.empty, 0⟩ : D)))[q]?) (show i = i / 2 * 2 by omega)).trans h2.1
        rw [e2]
        show some (#[Value.string ByteArray.empty, Value.int .i64 0][i % 2]!) = _
        rw [e]
        simp
      · have e2 : (flat (List.replicate m (⟨ByteArray.empty, 0⟩ : D)))[i]? = _ := (congrArg (fun q => (flat (List.replicate m (⟨ByteArray.empty, 0⟩ : D)))[q]?) (show i = i / 2 * 2 + 1 by omega)).trans h2.2
        rw [e2]
        show some (#[Value.string ByteArray.empty, Value.int .i64 0][i % 2]!) = _
        rw [e]
        simp
    · rw [List.getElem?_eq_none (by simp; omega), List.getElem?_eq_none (by rw [flat_length]; simp; omega)]
  refine wpList_append_own_zeros _ hgd s x _ _ ho base _ i0 _ .i64 .i64 2 24 Tryz.underlying33 Tryz.underlying3 hi hz0 hz1 hz2 rfl (by omega) v n xs hs hown m hx h0 hm ?_ (by unfold maxLen; omega) (by omega) hbase ?_
  · rw [hz]
    intro u hu
    unfold flat at hu
    obtain ⟨d, _, hd⟩ := List.mem_flatMap.1 hu
    simp [encD] at hd
    rcases hd with rfl | rfl <;> rfl
  · rw [hz]
    exact h
/-- .. the same, as one step of a region that draws its order. -/
theorem step_app_D {W : World} {ops : Array Oper} {o : Oper} {a : Act} {K : Act → World → Prop} {Q : Exit → Act → World → Prop} {E : Prop} (hgd : o.guard = none) (s x : Operand) (ho : o.op = .call { callee := .builtin .append, args := #[s, x], argTypes := #[33, 33] })
    (base : Nat) (v : Value) (n : Nat) (xs : List Value) (hs : a.eval s = v) (hown : W.ownsRow base 108 2 v n xs) (nm : ByteArray) (vl : Int)
    (c g : Nat) (hx : a.eval x = .slice (some ⟨g, 0, none⟩) 1 c) (hblk : W.heap[g]? = some (.cells #[.string nm, .int .i64 vl] 108 (0, 0))) (hn : n ≤ 2000000) (hbase : base ≤ W.heap.size)
    (hK : ∀ v' w', w'.ownsRow base 108 2 v' (n + 1) (xs ++ [.string nm, .int .i64 vl]) → W.grownBy w' v.ownBlock → K (a.put o.dst v') w') :
    if Region.wanted o (yielded ops a.tmps) = true then Oper.wp Tryz.prog o a W K Q else E := by
  have hw : Region.wanted o (yielded ops a.tmps) = true := by simp [Region.wanted, hgd]
  rw [if_pos hw]
  obtain ⟨i0, hi, hz0, hz1, hz2⟩ := info_parts info_D
  exact wp_append_own _ s x _ ho base _ i0 _ 2 24 Tryz.underlying33 hi hz0 hz1 hz2 rfl (by omega) v n xs hs hown ⟨g, 0, none⟩ 1 c [.string nm, .int .i64 vl] hx rfl
    (World.news_of_block hblk) (by simp [Value.oneCell']) (by unfold maxLen; omega) (by omega) hbase (fun v' w' h2 h3 _ => hK v' w' h2 h3)
/-- A block whose first cell is a slice is no row of definitions. -/
theorem own_no_slice {w : World} {base n g : Nat} {v : Value} {ds : List D} {A : Option Addr} {k c : Nat} (h : w.ownsRow base 108 2 v n (flat ds)) (hn : 0 < n) (hc : w.cell? ⟨g, 0, none⟩ = some (.slice A k c)) : v.ownBlock ≠ some g := by
  intro e
  obtain ⟨A', c', rfl⟩ := own_form h
  have hl : ds.length = n := by have := h.1; rw [flat_length] at this; omega
  have h2 : ∃ o, A' = some ⟨g, o, none⟩ := by
    rcases h.2 with ⟨h1, rfl⟩ | ⟨g', cap, cur, h1, _⟩
    · omega
    · injection h1 with e1
      subst e1
      simp [Value.ownBlock] at e
      exact ⟨0, by rw [e]⟩
  rcases h.2 with ⟨h1, rfl⟩ | ⟨g', cap, cur, h1, _⟩
  · omega
  · injection h1 with e1
    subst e1
    simp [Value.ownBlock] at e
    subst e
    have := h.cellAt 0 (by omega)
    have h3 := (flat_get ds 0 (by omega)).1
    simp at h3
    rw [hc, h3] at this
    cases this
end Go.Proofs.YtiebdhbioccogaaGreatDoor

namespace Go.Proofs.YtiebdhbioccogaaGreatDoor
open Go.RowKit Go.Maps
set_option linter.unusedVariables false
set_option maxRecDepth 100000

def flatS (ss : List ByteArray) : List Value := ss.map Value.string
theorem flatS_length (ss : List ByteArray) : (flatS ss).length = ss.length := by simp [flatS]
/-- A fresh slice of texts. -/
def StrsP (ss : List ByteArray) (w : World) (e : Ending) (w' : World) : Prop :=
  ∃ A c, e = .returned (.slice A ss.length c) ∧ w'.ownsRow w.heap.size 9 1 (.slice A ss.length c) ss.length (flatS ss) ∧ Below w.heap.size w w'

/-- An owned row of texts reads as a slice of them. -/
theorem ss_of_own {w : World} {base n c : Nat} {A : Option Addr} {e : TypeId} {ss : List ByteArray} (h : w.ownsRow base e 1 (.slice A n c) n (flatS ss)) (hok : ∀ s ∈ ss, s.size ≤ maxLen) : SS w w.heap.size A n c ss := by
  have hl : ss.length = n := by have := h.1; rw [flatS_length] at this; omega
  rcases h.2 with ⟨h1, h2⟩ | ⟨g, cap, cur, h1, hb, hg, hc, hm, hs, ht⟩
  · injection h1 with e1 e2 e3
    exact ⟨.inl (List.eq_nil_of_length_eq_zero (by omega)), hl, by omega, by subst e3; unfold maxLen; omega, hok⟩
  · injection h1 with e1 e2 e3
    subst e1 e3
    refine ⟨.inr ⟨g, 0, rfl, (Array.getElem?_eq_some_iff.1 hg).1, fun i x hi j v hj => ?_⟩, hl, hc, hm, hok⟩
    obtain ⟨hil, rfl⟩ := List.getElem?_eq_some_iff.1 hi
    match j, hj with
    | 0, hj =>
      simp [encS] at hj
      subst hj
      rw [show 0 + i * 1 + 0 = i from by omega, h.cellAt i (by omega)]
      unfold flatS
      rw [List.getElem?_map, List.getElem?_eq_getElem hil]
      rfl
    | j + 1, hj => simp [encS] at hj

set_option maxHeartbeats 1000000 in
theorem namesOf_any (ds : List D) (A : Option Addr) (c n : Nat) (w : World) (hr : SD w w.heap.size A n c ds) (hn : n ≤ 1048576) :
    Calls Tryz.prog 72 #[.slice A n c] w (StrsP (ds.map (·.name)) w) := by
  obtain rfl := hr.len
  have hl := hr.max
  have hl2 := hr.cap
  unfold maxLen at hl
  have HR := Lib.hid hr
  clear hr
  go_enter Tryz.func72, Tryz.ntmps72
  go_wp2
  have H0 : Hid (Below w.heap.size w (w.alloc (.cells #[] 9))) := Lib.hid ((Below.refl _ _).alloc (Nat.le_refl _) _)
  have H1 : Hid ((w.alloc (.cells #[] 9)).ownsRow w.heap.size 9 1 (.slice (some ⟨w.heap.size, 0, none⟩) 0 0) 0 (flatS ((ds.take 0).map (·.name)))) := Lib.hid (World.ownsRow_made w #[] 0 (Nat.le_refl _) (by unfold maxLen; omega) rfl)
  go_loopw [3, 4] (fun v i wr => ∃ k : Nat, k ≤ ds.length ∧ i = .int .i64 k ∧ Hid (wr.ownsRow w.heap.size 9 1 v k (flatS ((ds.take k).map (·.name)))) ∧ Hid (Below w.heap.size w wr)) (fun _ i _ => ds.length - (intOf i).toNat)
  case atStart => exact ⟨0, Nat.zero_le _, rfl, H1, H0⟩
  case round =>
    clear H0 H1
    obtain ⟨k, hk, rfl, hown, hbel⟩ := hrel
    by_cases hlt : k < ds.length
    · obtain ⟨b, o, rfl, hb, c1, c2⟩ := (HR.out.below hbel.out).at_ hlt
      have hi1 : (k : Int) < (ds.length : Int) := by omega
      have HT : Hid (flatS ((ds.take (k + 1)).map (·.name)) = flatS ((ds.take k).map (·.name)) ++ [.string ds[k].name]) := Lib.hid (by rw [List.take_succ_eq_append_getElem hlt]; unfold flatS; rw [List.map_append, List.map_append]; rfl)
      go_wp2_with (at_builtin; refine wpList_app_S rfl _ _ rfl _ _ _ _ rfl hown.out _ _ _ rfl (by first | rfl | simp) (by omega) hbel.out.size ?_; intro v' w1 ho1 hb1; have HO1 := Lib.hid ho1; have HB1 := Lib.hid hb1; clear ho1 hb1)
      go_roundw
      case rel => exact ⟨k + 1, by omega, by go_num, Lib.hid (by rw [HT.out]; exact HO1.out), Lib.hid (hbel.out.trans HB1.out)⟩
      case measure => simp [intOf]; omega
    · obtain rfl : k = ds.length := by omega
      go_wp2
      go_ret
      obtain ⟨A', c', hv⟩ := own_form hown.out
      subst hv
      have h2 := hown.out
      rw [List.take_of_length_le (Nat.le_refl _)] at h2
      exact ⟨A', c', by rw [List.length_map]; rfl, by rw [List.length_map]; exact h2, hbel.out⟩

def mMembers (ds : List D) : List ByteArray := if vEnum ds then (mems ds).map (·.name) else []
theorem mems_ok {ds : List D} (h : ∀ d ∈ ds, d.ok) : ∀ d ∈ mems ds, d.ok := fun d hd => h d (memTo_in ds _ d hd)
theorem mems_len {ds : List D} : (mems ds).length ≤ ds.length := by unfold mems; rw [memTo_len]; exact memCnt_le _ _

theorem mMembers_ok {ds : List D} (h : ∀ d ∈ ds, d.ok) : ∀ t ∈ mMembers ds, t.size ≤ maxLen := by
  unfold mMembers
  split
  · intro t ht
    simp at ht
    obtain ⟨d, hd, rfl⟩ := ht
    exact (mems_ok h d hd).1
  · intro t ht; cases ht
theorem mMembers_len (ds : List D) : (mMembers ds).length ≤ 12 := by
  unfold mMembers
  split
  · rename_i hv
    have := vEnum_len hv
    have := mems_len (ds := ds)
    simp; omega
  · simp
end Go.Proofs.YtiebdhbioccogaaGreatDoor

namespace Go.Proofs.YtiebdhbioccogaaGreatDoor
open Go.RowKit
set_option linter.unusedVariables false
set_option maxRecDepth 100000

/-! ### markText: some text, the same each time -/
def dg (n : Int) : ByteArray := ByteArray.empty.push (UInt8.ofNat n.toNat)
theorem dg_size (n : Int) : (dg n).size = 1 := rfl
def mkGo (j : Int) (o : ByteArray) : ByteArray := if h : 0 < j then mkGo (j / 10) (dg (48 + j % 10) ++ o) else o
termination_by j.toNat
decreasing_by omega
theorem mkGo_pos {j : Int} {o : ByteArray} (h : 0 < j) : mkGo j o = mkGo (j / 10) (dg (48 + j % 10) ++ o) := by
  conv => lhs; unfold mkGo
  rw [dif_pos h]
theorem mkGo_end {j : Int} {o : ByteArray} (h : ¬ 0 < j) : mkGo j o = o := by
  unfold mkGo; rw [dif_neg h]
def mk (k : Int) : ByteArray := (⟨#[109]⟩ : ByteArray) ++ mkGo k ⟨#[]⟩

theorem conv1 (W : World) (n : Int) : (convert 28 9 (.slice (some ⟨W.heap.size, 0, none⟩) 1 1)).run Tryz.prog (W.alloc (.cells #[.int .u8 n] 5)) = .ok (.string (dg n)) (W.alloc (.cells #[.int .u8 n] 5)) := by
  rw [run_convert_bytes_string _ _ _ _ _ _ _ Tryz.underlying28 Tryz.underlying5 Tryz.underlying9]
  exact run_bytesToString _ _ _ _ [n] (by simp [loadCells, go_sem])

def TxtP (s : ByteArray) (w : World) (e : Ending) (w' : World) : Prop := e = .returned (.string s) ∧ Below w.heap.size w w'

end Go.Proofs.YtiebdhbioccogaaGreatDoor

namespace Go.Proofs.YtiebdhbioccogaaGreatDoor
open Go.RowKit
set_option linter.unusedVariables false
set_option maxRecDepth 100000

theorem own_addr {w : World} {base n c sz : Nat} {A : Option Addr} {e : TypeId} {xs : List Value} (h : w.ownsRow base e sz (.slice A n c) n xs) (hn : 0 < n) : ∃ g, A = some ⟨g, 0, none⟩ ∧ base ≤ g ∧ g < w.heap.size := by
  rcases h.2 with ⟨h1, rfl⟩ | ⟨g, cap, cur, h1, hb, hg, _⟩
  · omega
  · injection h1 with e1
    exact ⟨g, e1, hb, (Array.getElem?_eq_some_iff.1 hg).1⟩
theorem grown_of_below {w w' : World} (h : Below w.heap.size w w') (row : Option Nat) : w.grownBy w' row := ⟨h.os, h.tape, h.output, h.size, fun k hk _ => h.block k hk⟩
theorem own_len {w : World} {base n sz : Nat} {e : TypeId} {v : Value} {xs : List Value} (h : w.ownsRow base e sz v n xs) : n ≤ maxLen := by
  rcases h.2 with ⟨_, rfl⟩ | ⟨g, cap, cur, h1, hb, hg, hc, hm, _⟩
  · exact Nat.zero_le _
  · omega

/-- The marks that begin at k0. -/
def marksS (k0 : Int) (k : Nat) : List Value := (List.range k).map fun i => .string (mk (k0 + (i : Nat)))
theorem marksS_succ (k0 : Int) (k : Nat) : marksS k0 (k + 1) = marksS k0 k ++ [.string (mk (k0 + k))] := by
  unfold marksS; rw [List.range_succ, List.map_append]; rfl
theorem marksS_get (k0 : Int) (n k : Nat) (h : k < n) : (marksS k0 n)[k]? = some (.string (mk (k0 + k))) := by
  unfold marksS; rw [List.getElem?_map, List.getElem?_range h]; rfl
theorem take_one {xs : List Value} {k : Nat} {a : Value} {ys : List Value} (h : xs.take k = ys) (hk : k < xs.length) : (xs.set k a).take (k + 1) = ys ++ [a] := by
  rw [List.take_succ_eq_append_getElem (by simp; omega), List.take_set_of_le (by omega), h]
  simp

/-- The row of v has been marked; nothing else that was there has changed. -/
def MarkP (base : Nat) (e : TypeId) (sz : Nat) (v : Value) (n : Nat) (r : Int) (ys : List Value) (w : World) (en : Ending) (w' : World) : Prop :=
  en = .returned (.int .i64 r) ∧ w'.ownsRow base e sz v n ys ∧ w.grownBy w' v.ownBlock


def HeldP (r : Int) (w : World) (e : Ending) (w' : World) : Prop := e = .returned (.int .i64 r) ∧ Below w.heap.size w w'

end Go.Proofs.YtiebdhbioccogaaGreatDoor

namespace Go.Proofs.YtiebdhbioccogaaGreatDoor
open Go.RowKit Go.Maps
set_option linter.unusedVariables false
set_option maxRecDepth 100000

end Go.Proofs.YtiebdhbioccogaaGreatDoor

namespace Go.Proofs.YtiebdhbioccogaaGreatDoor
open Go.RowKit Go.Maps
set_option linter.unusedVariables false
set_option maxRecDepth 100000

/-! ### plain facts -/
theorem fidx_congr {α : Type} {p q : α → Bool} {l : List α} (h : ∀ x ∈ l, p x = q x) : fidx p l = fidx q l := by
  rcases fidx_cases p l with ⟨h1, hn⟩ | ⟨k, hk, h1, hp, hn⟩
  · rw [h1, fidx_none (p := q) (fun i hi hk => by rw [← h _ (List.getElem_mem hi)]; exact hn i hi hk)]
  · rw [h1, fidx_some (p := q) (k := k) (fun i hi hik => by rw [← h _ (List.getElem_mem hi)]; exact hn i hi hik) hk (by rw [← h _ (List.getElem_mem hk)]; exact hp)]
theorem fidx_map {α β : Type} (f : α → β) (p : β → Bool) (l : List α) : fidx p (l.map f) = fidx (fun x => p (f x)) l := by
  unfold fidx
  rw [List.findIdx?_map]
  rfl
theorem memTo_mem (ds : List D) (k : Nat) (hk : k ≤ ds.length) (d : D) (h : d ∈ memTo ds k) : ∃ i, ∃ hi : i < ds.length, i < k ∧ ds[i] = d ∧ memAt ds i d = true := by
  induction k with
  | zero => cases h
  | succ k ih =>
    rw [memTo_succ ds k (by omega)] at h
    rcases List.mem_append.1 h with h | h
    · obtain ⟨i, hi, h1, h2⟩ := ih (by omega) h
      exact ⟨i, hi, by omega, h2⟩
    · by_cases hm : memAt ds k ds[k]
      · rw [if_pos hm] at h
        simp at h
        subst h
        exact ⟨k, by omega, by omega, rfl, hm⟩
      · rw [if_neg hm] at h; cases h
theorem memTo_has (ds : List D) (k : Nat) (hk : k ≤ ds.length) (i : Nat) (hi : i < ds.length) (hik : i < k) (hm : memAt ds i ds[i] = true) : ds[i] ∈ memTo ds k := by
  induction k with
  | zero => omega
  | succ k ih =>
    rw [memTo_succ ds k (by omega)]
    by_cases e : i = k
    · subst e; rw [if_pos hm]; simp
    · exact List.mem_append_left _ (ih (by omega) (by omega))
theorem names_apart {ds : List D} (hv : vEnum ds = true) (i j : Nat) (hi : i < ds.length) (hj : j < ds.length) (e : ds[i].name = ds[j].name) : i = j := by
  have key : ∀ i j (hi : i < ds.length) (hj : j < ds.length), ds[i].name = ds[j].name → ¬ i < j := by
    intro i j hi hj e hij
    have h := vEnum_good hv j hj hj
    unfold goodAt at h
    simp only [Bool.and_eq_true, decide_eq_true_eq] at h
    have h2 := h.2
    rcases fidx_cases (isNm ds[j].name) (ds.take j) with ⟨h1, hn⟩ | ⟨m, hm, h1, _⟩
    · have h3 := hn i (by simp; omega) (by simp; omega)
      rw [List.getElem_take] at h3
      have : isNm ds[j].name ds[i] = true := isNm_iff.2 e
      rw [this] at h3; cases h3
    · omega
  rcases Nat.lt_trichotomy i j with h | h | h
  · exact absurd h (key i j hi hj e)
  · exact h
  · exact absurd h (key j i hj hi e.symm)
/-- Among members the value tells the name. -/
theorem mem_value_name {ds : List D} (hv : vEnum ds = true) (j : Nat) (hj : j < ds.length) (hx : fidx (isVal ds[j].val) ds = j) (d : D) (hd : d ∈ mems ds) : isVal ds[j].val d = isNm ds[j].name d := by
  obtain ⟨i, hi, _, rfl, hm⟩ := memTo_mem ds _ (Nat.le_refl _) d hd
  rw [Bool.eq_iff_iff, isNm_iff]
  have h1 := mem_first ds i hi
  rw [hm] at h1
  simp at h1
  constructor
  · intro h
    unfold isVal at h
    simp at h
    rw [h] at h1
    obtain rfl : i = j := by omega
    rfl
  · intro h
    obtain rfl := names_apart hv i j hi hj h
    unfold isVal; simp
theorem first_of {ds : List D} (k : Nat) (hk : k < ds.length) : ∃ j, ∃ hj : j < ds.length, fidx (isVal ds[k].val) ds = (j : Int) ∧ ds[j].val = ds[k].val ∧ memAt ds j ds[j] = true ∧ j ≤ k := by
  rcases fidx_cases (isVal ds[k].val) ds with ⟨h1, hn⟩ | ⟨j, hj, h1, hp, hn⟩
  · have := hn k hk hk; unfold isVal at this; simp at this
  · have e : ds[j].val = ds[k].val := by unfold isVal at hp; simpa using hp
    refine ⟨j, hj, h1, e, ?_, ?_⟩
    · rw [← mem_first ds j hj, e, h1]; simp
    · rcases Nat.lt_or_ge k j with h | h
      · have := hn k hk h; unfold isVal at this; simp at this
      · exact h
theorem rank_in {ds : List D} (k : Nat) (hk : k < ds.length) : ∃ r : Nat, ∃ _ : r < (mems ds).length, fidx (isVal ds[k].val) (mems ds) = (r : Int) := by
  obtain ⟨j, hj, _, e, hm, _⟩ := first_of k hk
  rcases fidx_cases (isVal ds[k].val) (mems ds) with ⟨h1, hn⟩ | ⟨r, hr, h1, _⟩
  · have hin := memTo_has ds ds.length (Nat.le_refl _) j hj hj hm
    obtain ⟨i, hi, e2⟩ := List.mem_iff_getElem.1 hin
    have h3 := hn i hi hi
    have h4 : (mems ds)[i] = ds[j] := e2
    rw [h4] at h3
    unfold isVal at h3
    simp at h3
    exact absurd e h3
  · exact ⟨r, hr, h1⟩

/-! ### slices.Index over texts -/
def isT (s t : ByteArray) : Bool := s.toList == t.toList
set_option maxHeartbeats 400000 in
theorem sliceIndex_any (ss : List ByteArray) (s : ByteArray) (A : Option Addr) (c n : Nat) (w : World) (hr : SS w w.heap.size A n c ss) :
    Calls Tryz.prog 42 #[.slice A n c, .string s] w fun e w' => e = .returned (.int .i64 (fidx (isT s) ss)) ∧ w = w' := by
  obtain rfl := hr.len
  have hl := hr.max
  have hl2 := hr.cap
  unfold maxLen at hl
  have HR := Lib.hid hr
  clear hr
  go_enter Tryz.func42, Tryz.ntmps42
  go_wp2
  go_loop [8] (fun i => ∃ k : Nat, k ≤ ss.length ∧ i = .int .i64 k ∧ Hid (noTo (isT s) ss k)) (fun i => ss.length - (intOf i).toNat)
  case atStart => exact ⟨0, Nat.zero_le _, rfl, Lib.hid (noTo_zero _ _)⟩
  case round =>
    obtain ⟨k, hk, rfl, hok⟩ := hrel
    by_cases hlt : k < ss.length
    · obtain ⟨b, o, rfl, hb, c1⟩ := HR.out.at_ hlt
      cases hp : isT s ss[k]
      · have hp1 : (s.toList == ss[k].toList) = false := hp
        have HP := Lib.hid hp
        clear hp
        go_wp2
        go_round
        case rel => exact ⟨k + 1, by omega, by go_num, Lib.hid (noTo_succ hok.out hlt HP.out)⟩
        case measure => simp [intOf]; omega
      · have hp1 : (s.toList == ss[k].toList) = true := hp
        have HP := Lib.hid hp
        clear hp
        go_wp2
        go_ret
        exact ⟨ret_int (fidx_some hok.out hlt HP.out).symm, rfl⟩
    · obtain rfl : k = ss.length := by omega
      go_wp2
      go_ret
      exact ⟨ret_int (fidx_none hok.out).symm, rfl⟩

/-! ### RankOf -/
/-! ### NextMember -/
theorem next_lt {m r : Nat} (h : r < m) : (r + 1) % m < m := Nat.mod_lt _ (by omega)

end Go.Proofs.YtiebdhbioccogaaGreatDoor

