import Derived.Test.YtpmanbmhbfnefaaMissP
import Derived.BigQuiet
import Derived.Test.YtpmanbmhbfnefaaZapT
namespace Go.Proofs.Ytpmanbmhbfnefaa
open Go.RowKit Go.Maps
set_option linter.unusedVariables false
set_option maxRecDepth 100000

/-- 'append(out, x)', x one text: the row behind it, and what of the world is as it was. -/
theorem wpList_app_Sg {W : World} {ops : Array Oper} {rest : List Oper} {o : Oper} {a : Act} {Q : Exit → Act → World → Prop} (hgd : o.guard = none) (s x : Operand) (ho : o.op = .call { callee := .builtin .append, args := #[s, x], argTypes := #[49, 49] })
    (base : Nat) (v : Value) (n : Nat) (xs : List Value) (hs : a.eval s = v) (hown : W.ownsRow base 9 1 v n xs) (nm : ByteArray)
    (c g : Nat) (hx : a.eval x = .slice (some ⟨g, 0, none⟩) 1 c) (hgw : g = W.heap.size) (hn : n ≤ 2000000) (hbase : base ≤ W.heap.size)
    (h : ∀ v' w', w'.ownsRow base 9 1 v' (n + 1) (xs ++ [.string nm]) → Below base W w' → W.grownBy w' v.ownBlock → wpList Try.prog ops Q rest (a.put o.dst v') w') :
    wpList Try.prog ops Q (o :: rest) a (W.alloc (.cells #[.string nm] 9)) := by
  subst hgw
  obtain ⟨i0, hi, hz0, hz1, hz2⟩ := info_parts info_S
  refine wpList_append_own _ hgd s x _ ho base _ i0 _ 1 16 Try.underlying49 hi hz0 hz1 hz2 rfl (by omega) v n xs hs (hown.alloc _) ⟨W.heap.size, 0, none⟩ 1 c [.string nm] hx rfl
    (World.news_of_block (heap_alloc_new W _)) (by simp [Value.oneCell']) (by unfold maxLen; omega) (by omega) (by simp; omega) ?_
  intro v' w' h2 h3 _
  exact h v' w' h2 (((Below.refl _ _).alloc hbase _).grown h3 (by simp; omega) (fun k hk => (hown.lt k hk).1)) ((World.grownBy_alloc W _ _).trans h3)
set_option maxHeartbeats 1000000 in
theorem hasInt_v (ks : List Int) (x : Int) (A : Option Addr) (c n : Nat) (w : World) (hr : SI w w.heap.size A n c ks) {v : Bool} (hv : (ks.any fun y => decide (y = x)) = v) :
    Calls Try.prog 118 #[.slice A n c, .int .i64 x] w fun e w' => e = .returned (.bool v) ∧ Below w.heap.size w w' := by
  subst hv
  obtain rfl := hr.len
  have hl := hr.max
  have hl2 := hr.cap
  unfold maxLen at hl
  have HR := Lib.hid hr
  clear hr
  go_enter Try.func118, Try.ntmps118
  go_wp2
  go_loopw [5] (fun i wr => ∃ k : Nat, k ≤ ks.length ∧ i = .int .i64 k ∧ Hid ((ks.take k).any (fun y => decide (y = x)) = false) ∧ Hid (Below w.heap.size w wr)) (fun i _ => ks.length - (intOf i).toNat)
  case atStart => exact ⟨0, Nat.zero_le _, rfl, Lib.hid (by simp), Lib.hid (Below.refl _ _)⟩
  case round =>
    obtain ⟨k, hk, rfl, hok, hbel⟩ := hrel
    by_cases hlt : k < ks.length
    · obtain ⟨b, o, rfl, hb, c1⟩ := (HR.out.below hbel.out).at_ hlt
      have hi1 : (k : Int) < (ks.length : Int) := by omega
      cases hp : (ks[k] == x)
      · have HP : Hid ((ks.take (k + 1)).any (fun y => decide (y = x)) = false) := Lib.hid (by rw [any_take_succ _ _ _ hlt, hok.out, Bool.false_or, decide_eq_false (by simpa using hp)])
        go_wp2
        go_roundw
        case rel => exact ⟨k + 1, by omega, by go_num, HP, hbel⟩
        case measure => simp [intOf]; omega
      · have HP : Hid (ks.any (fun y => decide (y = x)) = true) := Lib.hid (List.any_eq_true.2 ⟨_, List.getElem_mem hlt, by simpa using hp⟩)
        go_wp2
        go_ret
        exact ⟨ret_bool HP.out.symm, hbel.out⟩
    · obtain rfl : k = ks.length := by omega
      go_wp2
      go_ret
      have := hok.out
      rw [List.take_of_length_le (Nat.le_refl _)] at this
      exact ⟨ret_bool this.symm, hbel.out⟩
theorem valI_ok {ds : List D} (h : ∀ d ∈ ds, d.ok) (s : ByteArray) : -9223372036854775808 ≤ valI ds s ∧ valI ds s ≤ 9223372036854775807 := by
  unfold valI
  cases e : ds[(fidx (isNm s) ds).toNat]? with
  | none => exact ⟨by decide, by decide⟩
  | some d => exact (h d (List.mem_of_getElem? e)).2
theorem metV_list (ds : List D) (ss : List ByteArray) (v : Int) : ((ss.map (valI ds)).any fun y => decide (y = v)) = metV ds ss v := by
  unfold metV; rw [List.any_map]; rfl
end Go.Proofs.Ytpmanbmhbfnefaa
