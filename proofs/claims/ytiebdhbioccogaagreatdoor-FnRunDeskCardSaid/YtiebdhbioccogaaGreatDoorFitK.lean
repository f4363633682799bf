import Derived.Test.YtiebdhbioccogaaGreatDoorFitI
import Derived.Test.YtiebdhbioccogaaGreatDoorFitJ
import Derived.Test.YtiebdhbioccogaaGreatDoorAlgS
namespace Go.Proofs.YtiebdhbioccogaaGreatDoor
open Go.RowKit Go.Shelf
set_option linter.unusedVariables false
set_option linter.unusedSimpArgs false
set_option maxRecDepth 100000
attribute [local go_sem] Oper.semAt_some

/-! ### the definitions that fit, for a body that grows a row of definitions -/
/-- The block g is that of the slice in the box Bs. -/
def ownIn (Bs : Nat) (W : World) (g : Nat) : Prop := ∃ v, W.cell? ⟨Bs, 0, none⟩ = some v ∧ v.ownBlock = some g
theorem ownIn_back {Bs g : Nat} {W W' : World} (h : Below W.heap.size W W') (hBs : Bs < W.heap.size) (ho : ownIn Bs W' g) : ownIn Bs W g := by
  obtain ⟨v, h1, h2⟩ := ho
  exact ⟨v, (h.cell (p := ⟨Bs, 0, none⟩) hBs).symm.trans h1, h2⟩
/-- What lay below n₀ is as it was, and so is every block of definitions but that of the slice in Bs; which block is not that slice's stays so. -/
def KpO (n₀ Bs : Nat) (W W' : World) : Prop := Below n₀ W W' ∧ ∀ g, g < W.heap.size → ¬ ownIn Bs W g → ¬ ownIn Bs W' g ∧ ∀ (cs : Array Value) (r : Nat × Nat), W.heap[g]? = some (Obj.cells cs 108 r) → W'.heap[g]? = some (Obj.cells cs 108 r)
theorem KpO.refl (n₀ Bs : Nat) (W : World) : KpO n₀ Bs W W := ⟨Below.refl _ _, fun g _ h => ⟨h, fun _ _ h => h⟩⟩
theorem KpO.trans {n₀ Bs : Nat} {A B C : World} (h : KpO n₀ Bs A B) (k : KpO n₀ Bs B C) : KpO n₀ Bs A C :=
  ⟨h.1.trans k.1, fun g hg hn => by
    obtain ⟨h1, h2⟩ := h.2 g hg hn
    obtain ⟨k1, k2⟩ := k.2 g (Nat.lt_of_lt_of_le hg h.1.size) h1
    exact ⟨k1, fun cs r hc => k2 cs r (h2 cs r hc)⟩⟩
theorem KpO.below {n₀ Bs : Nat} {W W' : World} (h : Below W.heap.size W W') (hn : n₀ ≤ W.heap.size) (hBs : Bs < W.heap.size) : KpO n₀ Bs W W' :=
  ⟨h.mono hn, fun g hg ho => ⟨fun k => ho (ownIn_back h hBs k), fun cs r hc => (h.block g hg).trans hc⟩⟩
theorem KpO.own {n₀ Bs base n : Nat} {v : Value} {xs : List Value} {W W' : World} (hk : KpO n₀ Bs W W') (h : W.ownsRow base 108 2 v n xs) (hno : ∀ g, v.ownBlock = some g → ¬ ownIn Bs W g) : W'.ownsRow base 108 2 v n xs ∧ ∀ g, v.ownBlock = some g → ¬ ownIn Bs W' g := by
  refine ⟨⟨h.1, ?_⟩, fun g hg => (hk.2 g (h.lt g hg).2 (hno g hg)).1⟩
  rcases h.2 with hn | ⟨g, cap, cur, rfl, h1, hg, rest⟩
  · exact .inl hn
  · exact .inr ⟨g, cap, cur, rfl, h1, (hk.2 g (h.lt g rfl).2 (hno g rfl)).2 _ _ hg, rest⟩

set_option maxHeartbeats 8000000 in
theorem fitIterO_in (n : Nat) (hn : 1 ≤ n) (l B1 B2 Bs n₀ m c a : Nat) (A : Option Addr) (ds : List D) (hin : ∀ d ∈ ds, inR d) (hm : m ≤ 1048576) (ha : a < 4096) (J Jx : List D → World → Prop) (W : World) (hn₀ : n₀ ≤ W.heap.size) (hBs : Bs < W.heap.size) (hNo : ∀ g, ¬ ownIn Bs W g)
    (hJ : AbidesFrom W.heap.size J)
    (hY : ∀ pre x W, J pre W → pre.length < (mFit ds a).length → YieldAt Fence.wide (n - 1) Tryz.prog l (encDv x) W fun e W' =>
      (e = .returned (.bool true) ∧ J (pre ++ [x]) W' ∧ KpO n₀ Bs W W') ∨ (e = .returned (.bool false) ∧ Jx (pre ++ [x]) W'))
    (hB1 : W.cell? ⟨B1, 0, none⟩ = some (.slice A m c)) (hB2 : W.cell? ⟨B2, 0, none⟩ = some (.int .i64 a)) (hS : SD W W.heap.size A m c ds) (h0 : J [] W) :
    CallsIn Fence.wide n Tryz.prog 183 #[.func (.yield l) #[] #[], .pointer (some ⟨B1, 0, none⟩), .pointer (some ⟨B2, 0, none⟩)] W fun e W' => (∃ v, e = .returned v) ∧
      ((∃ ys : List D, ys = mFit ds a ∧ J ys W') ∨ (∃ pre, True ∧ Jx pre W')) := by
  have hnone : ∀ {W2 : World} (r : Nat), (none : Option Nat) = some r → W.heap.size ≤ r ∧ ∃ o : Obj, W2.heap[r]? = some o ∧ o.isWalk = true := fun r e => by cases e
  obtain ⟨ms, hms⟩ : ∃ ms, mWithin ds a = ms := ⟨_, rfl⟩
  have hfl : mFit ds a = ms.filter hasV := by unfold mFit; rw [hms]
  have hml : ms.length ≤ 1048576 := by rw [← hms]; have := mWithin_len ds a; have := hS.len; omega
  have HOK : Hid (∀ d ∈ ms, d.ok) := Lib.hid (by rw [← hms]; exact fun d hd => hS.ok d (mWithin_mem hd))
  have HWI := Lib.hid (implWithin_any ds a A m c W hS hin hm ha)
  unfold DefsP at HWI
  rw [hms] at HWI
  rw [hfl] at hY ⊢
  clear hfl hms
  refine callsIn_of_wp Tryz.func183 rfl trivial ?_ rfl
  simp only [Tryz.ntmps183, List.size_toArray, List.length_cons, List.length_nil, Nat.reduceAdd, Nat.reduceSub, Array.replicate_succ, Array.replicate_zero, List.push_toArray, List.append_toArray, List.nil_append, List.cons_append]
  gi_wp2_with (refine ⟨trivial, ?_⟩; gi_at_call 126; refine (callsIn_wide.2 HWI.out).mono ?_; rintro e W1 ⟨A2, c2, rfl, ho, hb⟩)
  have h1 : J [] W1 := hJ [] W W1 none h0 (grownN hb) (fun r e => by cases e)
  have K1 : KpO n₀ Bs W W1 := KpO.below hb hn₀ hBs
  have hz1 := hb.size
  have hNo1 : ∀ g, ¬ ownIn Bs W1 g := fun g h => hNo g (ownIn_back hb hBs h)
  clear hB1 hB2 hb
  gi_loopw [10] (fun i wr => ∃ k : Nat, k ≤ ms.length ∧ i = .int .i64 k ∧ J ((ms.take k).filter hasV) wr ∧ W1.heap.size ≤ wr.heap.size ∧ KpO n₀ Bs W1 wr) (fun i _ => ms.length - (intOf i).toNat)
  case atStart => exact ⟨0, Nat.zero_le _, rfl, by simpa using h1, Nat.le_refl _, KpO.refl _ _ _⟩
  case round =>
    obtain ⟨k, hk, rfl, hJs, hzr, hnx⟩ := hrel
    by_cases hlt : k < ms.length
    · obtain ⟨b, o, hA, hb, x1, x2⟩ := (sd_of_own (hnx.own ho (fun g _ => hNo1 g)).1 HOK.out).at_ hlt
      subst hA
      have hi1 : (k : Int) < (ms.length : Int) := by omega
      have hi0 : (0 : Int) ≤ (k : Int) := by omega
      have hw1 : IntKind.i64.wrap ((k : Int) + 1) = (k : Int) + 1 := by rw [IntKind.wrap_i64]; omega
      have hst := hasV_succ ms k hlt
      have hle : ((ms.take (k + 1)).filter hasV).length ≤ (ms.filter hasV).length := ((List.take_sublist _ _).filter _).length_le
      generalize hkm : ms[k] = km at *
      have hbW : Below wr.heap.size wr (wr.alloc (.cells #[.string km.name, .int .i64 km.val] 108)) := (Below.refl _ _).alloc (Nat.le_refl _) _
      have hJ2 : J ((ms.take k).filter hasV) (wr.alloc (.cells #[.string km.name, .int .i64 km.val] 108)) := hJ _ wr _ none hJs (grownN hbW) (fun r e => by cases e)
      have hnx2 : KpO n₀ Bs W1 (wr.alloc (.cells #[.string km.name, .int .i64 km.val] 108)) := hnx.trans (KpO.below hbW (by omega) (by omega))
      have hz2 : W1.heap.size ≤ (wr.alloc (.cells #[.string km.name, .int .i64 km.val] 108)).heap.size := Nat.le_trans hzr hbW.size
      by_cases hv0 : km.val = 0
      · have hf : hasV km = false := by unfold hasV; rw [hv0]; rfl
        rw [hf] at hst
        rw [hv0] at hJ2 hnx2 hz2
        have e0 : (km.val == 0) = true := by rw [beq_iff_eq]; exact hv0
        gi_wp2
        refine ⟨fun _ h => (by cases h), ?_⟩
        gi_wp2
        go_roundw
        case rel => exact ⟨k + 1, by omega, by go_num, by rw [hst]; simpa using hJ2, hz2, hnx2⟩
        case measure => simp [intOf]; omega
      · have hf : hasV km = true := by unfold hasV; exact decide_eq_true hv0
        rw [hf] at hst
        have e0 : (km.val == 0) = false := by rw [beq_eq_false_iff_ne]; exact hv0
        have hlen : ((ms.take k).filter hasV).length < (ms.filter hasV).length := by rw [hst] at hle; simp at hle; omega
        obtain ⟨fn, tmps, assign, body, hy, hR⟩ := hY ((ms.take k).filter hasV) km _ hJ2 hlen
        dsimp only [encDv] at hy
        gi_wp2
        refine hR.mono ?_
        rintro e W3 (⟨rfl, hJ3, hk3⟩ | ⟨rfl, hJx3⟩)
        · gi_wp2
          go_roundw
          case rel => exact ⟨k + 1, by omega, by go_num, by rw [hst]; exact hJ3, Nat.le_trans hz2 hk3.1.size, hnx2.trans hk3⟩
          case measure => simp [intOf]; omega
        · gi_wp2
          refine bodyPost_ret (results_none rfl _ _ _) rfl ?_
          exact ⟨⟨_, rfl⟩, .inr ⟨_, trivial, hJx3⟩⟩
    · obtain rfl : k = ms.length := by omega
      have hi9 : ¬ (ms.length : Int) < (ms.length : Int) := by omega
      rw [List.take_of_length_le (Nat.le_refl _)] at hJs
      gi_wp2
      go_end0
      exact ⟨⟨_, rfl⟩, .inl (by first | exact hJs | exact ⟨_, rfl, hJs⟩)⟩
theorem fitO_stops (n : Nat) (hn : 1 ≤ n) (B1 B2 Bs n₀ m c a : Nat) (A : Option Addr) (ds : List D) (hin : ∀ d ∈ ds, inR d) (hm : m ≤ 1048576) (ha : a < 4096) (w : World) (hn₀ : n₀ ≤ w.heap.size) (hNil : w.cell? ⟨Bs, 0, none⟩ = some (.slice none 0 0)) (h1 : w.cell? ⟨B1, 0, none⟩ = some (.slice A m c)) (h2 : w.cell? ⟨B2, 0, none⟩ = some (.int .i64 a)) (hS : SD w w.heap.size A m c ds) :
    SeqStopsK Fence.wide n Tryz.prog 183 #[.pointer (some ⟨B1, 0, none⟩), .pointer (some ⟨B2, 0, none⟩)] encDv (KpO n₀ Bs) (fun ys => ys = mFit ds a) (fun _ => True) (mFit ds a).length w := fun l J Jx W hW hJ _ hY h0 =>
  fitIterO_in n hn l B1 B2 Bs n₀ m c a A ds hin hm ha J Jx W (Nat.le_trans hn₀ hW.size) (Nat.lt_of_lt_of_le (World.block_lt_of_cell? _ _ hNil) hW.size) (fun g h => by obtain ⟨v, h1, h2⟩ := h; rw [keep1 hW hNil] at h1; cases h1; cases h2) hJ hY (keep1 hW h1) (keep1 hW h2) ((hS.below hW).call hW.size) h0
end Go.Proofs.YtiebdhbioccogaaGreatDoor
