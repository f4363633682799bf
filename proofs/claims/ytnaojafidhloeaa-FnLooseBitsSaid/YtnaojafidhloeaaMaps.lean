import Derived.Test.YtnaojafidhloeaaCopy
import Derived.Maps.OwnSet
import Derived.Maps.OwnOps
import Derived.Maps.Views
namespace Go.Proofs.Ytnaojafidhloeaa
open Go.RowKit Go.Maps
set_option linter.unusedVariables false
set_option maxRecDepth 100000

theorem run_makeMap_hint {P : Program} {t k e : TypeId} (h : P.underlying t = some (.map k e)) (n : Int) (w : World) :
    (Instr.makeMap t (some (.int .i64 n))).run P w = .ok (.map (some w.heap.size)) (w.alloc (.map #[] 0)) := by
  simp [Instr.makeMap, run_underlying h, asInt, asIntOf, go_sem]

theorem strKey : Keyed Try.prog 9 := string_keyed Try.underlying9
theorem zeroBool (w : World) : (zeroValue 4).run Try.prog w = .ok (.bool false) w := by kernel_rfl

/-- Block b of w is a set of names: a map[string]bool that holds true at just the names of which S says so. -/
def SetP (w : World) (b n : Nat) (S : ByteArray → Bool) : Prop :=
  ∃ D : DataW Unit, w.ownsMap Try.prog 9 (plainElem Try.prog 4) b n D ∧ IsMap D ∧ ∀ s : ByteArray, D.atKey (.string s.data.toList) (.lit (.bool false)) = .lit (.bool (S s))

theorem SetP.made (w : World) : SetP (w.alloc (.map #[] 0)) w.heap.size 0 (fun _ => false) :=
  ⟨_, World.ownsMap_made w _ _ _, isMap_empty, fun _ => rfl⟩
theorem SetP.alloc {w : World} {b n : Nat} {S : ByteArray → Bool} (h : SetP w b n S) (o : Obj) : SetP (w.alloc o) b n S := by
  obtain ⟨D, h1, h2⟩ := h; exact ⟨D, h1.alloc o, h2⟩
theorem SetP.below {w w' : World} {b n : Nat} {S : ByteArray → Bool} (h : SetP w b n S) (hb : Below w.heap.size w w') : SetP w' b n S := by
  obtain ⟨D, h1, h2⟩ := h
  exact ⟨D, h1.kept (row := none) ⟨hb.os, hb.tape, hb.output, hb.size, fun k hk _ => hb.block k hk⟩ (by simp), h2⟩
/-- m[s]: whether s is in the set. -/
theorem SetP.look {w : World} {b n : Nat} {S : ByteArray → Bool} (h : SetP w b n S) (s : ByteArray) (hs : s.size ≤ maxLen) :
    (Instr.lookup 107 (.map (some b)) (.string s) false).run Try.prog w = .ok (.bool (S s)) w := by
  obtain ⟨D, h1, h2, h3⟩ := h
  obtain ⟨v, ps, hrun, hv⟩ := h1.lookup strKey Try.underlying107 (zeroBool w) (plainElem_bool Try.underlying4 false) (Go.WideMaps.keyOf_string_mk Try.underlying9 hs)
  rw [h3 s] at hv
  unfold plainElem at hv
  rw [Try.underlying4] at hv
  cases v <;> simp at hv
  rw [hrun, hv.1]
/-- m[s] = true. -/
theorem SetP.put {w : World} {b n : Nat} {S : ByteArray → Bool} (h : SetP w b n S) (s : ByteArray) (hs : s.size ≤ maxLen) (hn : n < maxLen) :
    ∃ w', (Instr.mapUpdate 107 (.map (some b)) (.string s) (.bool true)).run Try.prog w = .ok () w' ∧ SetP w' b (n + 1) (fun t => t.toList == s.toList || S t) ∧ w.grownBy w' (some b) := by
  obtain ⟨D, h1, h2, h3⟩ := h
  obtain ⟨w', hrun, h4, h5⟩ := h1.update strKey Try.underlying107 hn (Go.WideMaps.keyOf_string_mk Try.underlying9 hs) (plainElem_bool Try.underlying4 true)
  refine ⟨w', hrun, ⟨_, h4, h2.put _ _, fun t => ?_⟩, h5⟩
  by_cases e : t = s
  · subst e
    rw [atKey_put_same h2 (show WideAt.IsKeyLit (Lit.string t.data.toList) from trivial)]
    simp
  · rw [atKey_put_other (fun e1 => e (by injection e1 with e1; exact WideShapes.bytes_inj e1)), h3 t]
    show _ = DataW.lit (Lit.bool (t.toList == s.toList || S t))
    rw [nm_false e]
    rfl

/-- The store at the operation, for the walk. -/
theorem wpList_set_put (w : World) {ops : Array Oper} {rest : List Oper} {o : Oper} {a : Act} {Q : Exit → Act → World → Prop}
    (hg : o.guard = none) (m x v : Operand) (hop : o.op = Op.mapUpdate 107 m x v) (b n : Nat) (S : ByteArray → Bool) (s : ByteArray)
    (hm : a.eval m = .map (some b)) (hown : SetP w b n S) (hn : n < maxLen) (hs : s.size ≤ maxLen) (hx : a.eval x = .string s) (hv : a.eval v = .bool true)
    (hK : ∀ w', SetP w' b (n + 1) (fun t => t.toList == s.toList || S t) → w.grownBy w' (some b) → wpList Try.prog ops Q rest (a.put o.dst undef) w') :
    wpList Try.prog ops Q (o :: rest) a w := by
  refine wpList_plain hg fun K' hK' => ?_
  obtain ⟨w', hrun, r1, r2⟩ := hown.put s hs hn
  unfold Oper.wp
  simp [execOp, hop, hm, hx, hv, hrun, Result.andThen]
  exact hK' _ _ (hK w' r1 r2)

theorem met_step (ds : List D) (k : Nat) (h : k < ds.length) : (fun t => t.toList == ds[k].name.toList || metTo ds k t) = metTo ds (k + 1) := by
  funext t
  unfold metTo
  rw [any_take_succ _ _ _ h, Bool.or_comm]
  congr 1
  unfold isNm
  rw [Bool.eq_iff_iff]; simp; exact eq_comm

set_option maxHeartbeats 2000000 in
theorem implVE (ds : List D) (A : Option Addr) (c n : Nat) (w : World) (hr : SD w w.heap.size A n c ds) :
    Calls Try.prog 100 #[.agg #[.slice A n c]] w fun e w' => e = .returned (.bool (vEnum ds)) ∧ Below w.heap.size w w' := by
  obtain rfl := hr.len
  have hl := hr.max
  have hl2 := hr.cap
  unfold maxLen at hl
  have HR := Lib.hid hr
  clear hr
  have hmm := fun (n : Int) => run_makeMap_hint (P := Try.prog) Try.underlying107 n
  by_cases h12 : 12 < ds.length
  · have hv : vEnum ds = false := by unfold vEnum vDefs; rw [decide_eq_false (p := ds.length ≤ 12) (by omega)]; simp
    have HV := Lib.hid hv
    clear hv
    go_enter Try.func100, Try.ntmps100
    go_wp2
    go_ret
    exact ⟨ret_bool HV.out.symm, (Below.refl _ _).alloc (Nat.le_refl _) _⟩
  · go_enter Try.func100, Try.ntmps100
    go_wp2
    clear hmm
    have H0 : Hid (Below w.heap.size w ((w.alloc (.cells #[.slice A ds.length c] 96)).alloc (.map #[] 0))) := Lib.hid (((Below.refl _ _).alloc (Nat.le_refl _) _).alloc (by simp) _)
    have H1 : Hid (SetP ((w.alloc (.cells #[.slice A ds.length c] 96)).alloc (.map #[] 0)) (w.heap.size + 1) 0 (metTo ds 0)) := Lib.hid (by have := SetP.made (w.alloc (.cells #[.slice A ds.length c] 96)); rw [World.size_alloc] at this; exact this)
    go_loopw [17] (fun i wr => ∃ k : Nat, k ≤ ds.length ∧ i = .int .i64 k ∧ Hid (goodTo (-1000) 1000 ds k) ∧ Hid (SetP wr (w.heap.size + 1) k (metTo ds k)) ∧ Hid (Below w.heap.size w wr)) (fun i _ => ds.length - (intOf i).toNat)
    case atStart => exact ⟨0, Nat.zero_le _, rfl, Lib.hid (goodTo_zero _ _ _), H1, H0⟩
    case round =>
      clear H0 H1
      obtain ⟨k, hk, rfl, hok, hset, hbel⟩ := hrel
      by_cases hlt : k < ds.length
      · obtain ⟨b, o, rfl, hb, c1, c2⟩ := (HR.out.below hbel.out).at_ hlt
        have HN := Lib.hid (HR.out.ok _ (List.getElem_mem hlt)).1
        have HG : Hid (goodAt (-1000) 1000 ds k ds[k] = (vName ds[k].name && (decide (-1000 ≤ ds[k].val) && decide (ds[k].val ≤ 1000)) && !metTo ds k ds[k].name)) := Lib.hid (by unfold goodAt metTo; rw [fidx_any])
        have hi1 : (k : Int) < (ds.length : Int) := by omega
        have hlk : ∀ o : Obj, (Instr.lookup 107 (.map (some (w.heap.size + 1))) (.string ds[k].name) false).run Try.prog (wr.alloc o) = .ok (.bool (metTo ds k ds[k].name)) (wr.alloc o) := fun o => (hset.out.alloc o).look _ HN.out
        cases hv : vName ds[k].name
        · have H1 := Lib.hid hv
          clear hv
          go_wp2_with (go_at_call 109; refine (implName_v _ _ HN.out H1.out).mono ?_; rintro e w' ⟨rfl, rfl⟩)
          go_ret
          exact ⟨ret_bool (vDefs_bad hlt (by rw [HG.out, H1.out]; rfl)).symm, hbel.out.alloc hbel.out.size _⟩
        · have H1 := Lib.hid hv
          clear hv
          cases hm : metTo ds k ds[k].name
          · rw [hm] at hlk
            have H2 := Lib.hid hm
            clear hm
            by_cases hlo : ds[k].val < -1000
            · go_wp2_with (go_at_call 109; refine (implName_v _ _ HN.out H1.out).mono ?_; rintro e w' ⟨rfl, rfl⟩)
              go_ret
              exact ⟨ret_bool (vDefs_bad hlt (by rw [HG.out, H1.out, H2.out]; simp; omega)).symm, hbel.out.alloc hbel.out.size _⟩
            · by_cases hhi : 1000 < ds[k].val
              · go_wp2_with (go_at_call 109; refine (implName_v _ _ HN.out H1.out).mono ?_; rintro e w' ⟨rfl, rfl⟩)
                go_ret
                exact ⟨ret_bool (vDefs_bad hlt (by rw [HG.out, H1.out, H2.out]; simp; omega)).symm, hbel.out.alloc hbel.out.size _⟩
              · have HS := fun o : Obj => Lib.hid (hset.out.alloc o)
                go_wp2_with (first | (go_at_call 109; refine (implName_v _ _ HN.out H1.out).mono ?_; rintro e w' ⟨rfl, rfl⟩) | (at_mapUpdate; refine wpList_set_put _ rfl _ _ _ rfl _ _ _ _ rfl (HS _).out (by unfold maxLen; omega) HN.out rfl rfl ?_; intro w1 hp1 hg1; have HP1 := Lib.hid hp1; have HG1 := Lib.hid hg1; clear hp1 hg1))
                go_roundw
                case rel => exact ⟨k + 1, by omega, by go_num, Lib.hid (goodTo_succ hok.out hlt (by rw [HG.out, H1.out, H2.out]; simp; omega)), Lib.hid (by rw [← met_step ds k hlt]; exact HP1.out), Lib.hid ((hbel.out.alloc hbel.out.size _).grown HG1.out (by have := hbel.out.size; simp; omega) (fun j hj => by cases hj; omega))⟩
                case measure => simp [intOf]; omega
          · rw [hm] at hlk
            have H2 := Lib.hid hm
            clear hm
            go_wp2_with (go_at_call 109; refine (implName_v _ _ HN.out H1.out).mono ?_; rintro e w' ⟨rfl, rfl⟩)
            go_ret
            exact ⟨ret_bool (vDefs_bad hlt (by rw [HG.out, H1.out, H2.out]; simp)).symm, hbel.out.alloc hbel.out.size _⟩
      · obtain rfl : k = ds.length := by omega
        have HE := Lib.hid (vDefs_end hok.out)
        go_wp2
        go_ret
        exact ⟨ret_bool (by unfold vEnum; rw [HE.out]; simp; omega), hbel.out⟩
end Go.Proofs.Ytnaojafidhloeaa
