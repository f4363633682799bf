import Derived.Test.YtbkfagncoekbkaaFlagI
namespace Go.Proofs.Ytbkfagncoekbkaa
open Go.RowKit Go.Maps
set_option linter.unusedVariables false
set_option maxRecDepth 100000

/-! ### the program's lists of definitions -/
set_option maxHeartbeats 2000000 in
theorem implSg_any (ds : List D) (A : Option Addr) (n c : Nat) (w : World) (hr : SD w w.heap.size A n c ds) :
    Calls Try.prog 84 #[.slice A n c] w (DefsP (mSg ds) w) := by
  obtain rfl := hr.len
  have hl := hr.max
  have hl2 := hr.cap
  unfold maxLen at hl
  have HR := Lib.hid hr
  clear hr
  go_enter Try.func84, Try.ntmps84
  go_wp2_with fail
  refine (memberIndexes_any ds _ _ _ _ HR.out).mono ?_
  rintro e w1 ⟨rfl, hi1, hb1⟩
  have HI := Lib.hid hi1
  have HB := Lib.hid hb1
  have hG : w.heap.size ≤ w1.heap.size := hb1.size
  clear hi1 hb1
  go_wp2
  generalize w.heap.size = G at HI hG ⊢
  go_loopw [4, 5] (fun v i wr => ∃ k p : Nat, k ≤ 12 ∧ 1 ≤ p ∧ p ≤ 4096 ∧ i = .int .i64 p ∧ Hid (p = 2 ^ k) ∧ Hid (wr.ownsRow w1.heap.size 37 2 v (sgTo ds k).length (flat (sgTo ds k))) ∧ Hid (Below w1.heap.size w1 wr)) (fun _ i _ => 4096 - (intOf i).toNat)
  case atStart => exact ⟨0, 1, by omega, by omega, by omega, rfl, Lib.hid rfl, Lib.hid (World.ownsRow_nil _ _ _ _), Lib.hid (Below.refl _ _)⟩
  case round =>
    obtain ⟨k, p, hk, hp1, hp2, rfl, hp, hown, hbel⟩ := hrel
    by_cases h12 : k < 12
    · have hp3 : p ≤ 2048 := by rw [hp.out]; exact Nat.pow_le_pow_right (n := 2) (by decide) (show k ≤ 11 by omega)
      have HP2 : Hid (p * 2 = 2 ^ (k + 1)) := Lib.hid (by rw [hp.out, Nat.pow_succ])
      have HS := Lib.hid (((HR.out.below HB.out).below' hbel.out (by have := HB.out.size; exact this)).call (Nat.le_trans HB.out.size hbel.out.size))
      have HL := Lib.hid (sgTo_len ds k)
      have HIr := Lib.hid (HI.out.below hbel.out)
      rcases fidx_cases (isVal (p : Int)) ds with ⟨hx, _⟩ | ⟨j, hj, hx, _, _⟩
      · have HT : Hid (sgTo ds (k + 1) = sgTo ds k) := Lib.hid (by show sgTo ds k ++ sgAt ds k = _; rw [sgAt_no (by rw [← hp.out]; omega), List.append_nil])
        have hlk := HIr.out.look_no (p : Int) ⟨by omega, by omega⟩ (by omega)
        clear hx
        go_wp2
        go_roundw
        case rel => exact ⟨k + 1, p * 2, by omega, by omega, by omega, by first | go_num | (congr 1; push_cast; omega), HP2, Lib.hid (by rw [HT.out]; exact hown.out), hbel⟩
        case measure => simp [intOf]; omega
      · obtain ⟨b, o, rfl, hbb, c1, c2⟩ := HS.out.at_ hj
        have HT : Hid (sgTo ds (k + 1) = sgTo ds k ++ [ds[j]]) := Lib.hid (by show sgTo ds k ++ sgAt ds k = _; rw [sgAt_yes hj (by rw [← hp.out]; exact hx)])
        have hlk := HIr.out.look_yes (p : Int) ⟨by omega, by omega⟩ (by omega)
        rw [hx] at hlk
        clear hx
        have hi1 : (j : Int) < (ds.length : Int) := by omega
        go_wp2_with (at_builtin; refine wpList_app_Df rfl _ _ rfl _ _ _ _ rfl hown.out _ _ _ _ rfl (by first | rfl | simp) (by have := HL.out; omega) hbel.out.size ?_; intro v' w2 ho1 hb1; have HO1 := Lib.hid ho1; have HB1 := Lib.hid hb1; clear ho1 hb1)
        go_roundw
        case rel => exact ⟨k + 1, p * 2, by omega, by omega, by omega, by first | go_num | (congr 1; push_cast; omega), HP2, Lib.hid (by rw [HT.out, List.length_append]; simpa [flat, encD] using HO1.out), Lib.hid (hbel.out.trans HB1.out)⟩
        case measure => simp [intOf]; omega
    · obtain rfl : k = 12 := by omega
      have hp4 : p = 4096 := hp.out
      have hp5 : (4095 : Int) < (p : Int) := by omega
      clear hp4
      go_wp2
      go_ret
      obtain ⟨A', c', hv⟩ := own_form hown.out
      subst hv
      exact ⟨A', c', rfl, own_base hown.out HB.out.size, HB.out.trans (hbel.out.mono HB.out.size)⟩

set_option maxHeartbeats 2000000 in
theorem implComp_any (ds : List D) (A : Option Addr) (n c : Nat) (w : World) (hr : SD w w.heap.size A n c ds) (hn : n ≤ 1048576) (hin : ∀ d ∈ ds, inR d) :
    Calls Try.prog 92 #[.slice A n c] w (DefsP (mComp ds) w) := by
  obtain rfl := hr.len
  have hl := hr.max
  have hl2 := hr.cap
  unfold maxLen at hl
  have HR := Lib.hid hr
  have HIN := Lib.hid hin
  clear hr hin
  go_enter Try.func92, Try.ntmps92
  go_wp2
  go_loopw [3, 8] (fun v i wr => ∃ k : Nat, k ≤ ds.length ∧ i = .int .i64 k ∧ Hid (wr.ownsRow w.heap.size 37 2 v (compTo ds k).length (flat (compTo ds k))) ∧ Hid (Below w.heap.size w wr)) (fun _ i _ => ds.length - (intOf i).toNat)
  case atStart => exact ⟨0, Nat.zero_le _, rfl, Lib.hid (World.ownsRow_nil _ _ _ _), Lib.hid (Below.refl _ _)⟩
  case round =>
    obtain ⟨k, hk, rfl, hown, hbel⟩ := hrel
    by_cases hlt : k < ds.length
    · obtain ⟨b, o, rfl, hb, c1, c2⟩ := (HR.out.below hbel.out).at_ hlt
      have hi1 : (k : Int) < (ds.length : Int) := by omega
      have HI := Lib.hid (HIN.out _ (List.getElem_mem hlt))
      obtain ⟨x, hx⟩ : ∃ x : Nat, ds[k].val = x := ⟨ds[k].val.toNat, (Int.toNat_of_nonneg HI.out.1).symm⟩
      have hx4 : x < 4096 := by have := HI.out.2; omega
      have hu : IntKind.u64.wrap (x : Int) = (x : Int) := by rw [IntKind.wrap_u64]; omega
      have HT := Lib.hid (compTo_succ ds k hlt)
      have HC : Hid (isComp ds[k] = decide (1 < popc x)) := Lib.hid (by unfold isComp; rw [hx]; rfl)
      have HE : Hid (encD ds[k] = [.string ds[k].name, .int .i64 x]) := Lib.hid (by unfold encD; rw [hx])
      have HL := Lib.hid (compTo_len ds k)
      rw [hx] at c2
      clear hx
      have l0 : (wr.alloc (.cells #[.string ds[k].name, .int .i64 x] 37)).cell? ⟨wr.heap.size, 0, none⟩ = some (.string ds[k].name) := by simp [go_sem]
      have l1 : (wr.alloc (.cells #[.string ds[k].name, .int .i64 x] 37)).cell? ⟨wr.heap.size, 1, none⟩ = some (.int .i64 x) := by simp [go_sem]
      have hbW : Below wr.heap.size wr (wr.alloc (.cells #[.string ds[k].name, .int .i64 x] 37)) := (Below.refl _ _).alloc (Nat.le_refl _) _
      have HBW : Hid (Below w.heap.size w (wr.alloc (.cells #[.string ds[k].name, .int .i64 x] 37))) := Lib.hid (hbel.out.trans (hbW.mono hbel.out.size))
      have HOW := Lib.hid (own_below hown.out hbW)
      clear hbW
      generalize hp : popc x = p at HC
      have HP := Lib.hid hp
      clear hp
      by_cases h1 : 1 < p
      · have HTT : Hid (compTo ds (k + 1) = compTo ds k ++ [ds[k]]) := Lib.hid (by rw [HT.out, HC.out, decide_eq_true h1]; rfl)
        go_wp2_with (first | (go_at_call 82; refine (ones_v x _ hx4 HP.out).mono ?_; rintro e w' ⟨rfl, rfl⟩) | (at_builtin; refine wpList_app_Df rfl _ _ rfl w.heap.size _ _ _ rfl HOW.out _ _ _ _ rfl (by first | rfl | simp) (by have := HL.out; omega) HBW.out.size ?_; intro v' w3 ho1 hb1; have HO1 := Lib.hid ho1; have HB1 := Lib.hid hb1; clear ho1 hb1))
        go_roundw
        case rel => exact ⟨k + 1, by omega, by go_num, Lib.hid (by rw [HTT.out, List.length_append]; simpa [flat, HE.out] using HO1.out), Lib.hid (HBW.out.trans HB1.out)⟩
        case measure => simp [intOf]; omega
      · have HTT : Hid (compTo ds (k + 1) = compTo ds k) := Lib.hid (by rw [HT.out, HC.out, decide_eq_false h1]; simp)
        go_wp2_with (go_at_call 82; refine (ones_v x _ hx4 HP.out).mono ?_; rintro e w' ⟨rfl, rfl⟩)
        go_roundw
        case rel => exact ⟨k + 1, by omega, by go_num, Lib.hid (by rw [HTT.out]; exact HOW.out), HBW⟩
        case measure => simp [intOf]; omega
    · obtain rfl : k = ds.length := by omega
      go_wp2
      go_ret
      obtain ⟨A', c', hv⟩ := own_form hown.out
      subst hv
      have h2 := hown.out
      have e1 : compTo ds ds.length = mComp ds := by unfold compTo mComp; rw [List.take_of_length_le (Nat.le_refl _)]
      rw [e1] at h2 ⊢
      exact ⟨A', c', rfl, h2, hbel.out⟩

set_option maxHeartbeats 1000000 in
theorem implNames_any (ds : List D) (A : Option Addr) (n c : Nat) (w : World) (hr : SD w w.heap.size A n c ds) (hn : n ≤ 1048576) :
    Calls Try.prog 85 #[.slice A n c] w (StrsP (ds.map (·.name)) w) := by
  obtain rfl := hr.len
  have hl := hr.max
  have hl2 := hr.cap
  unfold maxLen at hl
  have HR := Lib.hid hr
  clear hr
  go_enter Try.func85, Try.ntmps85
  go_wp2
  go_loopw [3, 8] (fun v i wr => ∃ k : Nat, k ≤ ds.length ∧ i = .int .i64 k ∧ Hid (wr.ownsRow w.heap.size 9 1 v k (flatS ((ds.take k).map (·.name)))) ∧ Hid (Below w.heap.size w wr)) (fun _ i _ => ds.length - (intOf i).toNat)
  case atStart => exact ⟨0, Nat.zero_le _, rfl, Lib.hid (World.ownsRow_nil _ _ _ _), Lib.hid (Below.refl _ _)⟩
  case round =>
    obtain ⟨k, hk, rfl, hown, hbel⟩ := hrel
    by_cases hlt : k < ds.length
    · obtain ⟨b, o, rfl, hb, c1, c2⟩ := (HR.out.below hbel.out).at_ hlt
      have hi1 : (k : Int) < (ds.length : Int) := by omega
      have HT : Hid (flatS ((ds.take (k + 1)).map (·.name)) = flatS ((ds.take k).map (·.name)) ++ [.string ds[k].name]) := Lib.hid (by rw [List.take_succ_eq_append_getElem hlt]; unfold flatS; rw [List.map_append, List.map_append]; rfl)
      have l0 : (wr.alloc (.cells #[.string ds[k].name, .int .i64 ds[k].val] 37)).cell? ⟨wr.heap.size, 0, none⟩ = some (.string ds[k].name) := by simp [go_sem]
      have hbW : Below wr.heap.size wr (wr.alloc (.cells #[.string ds[k].name, .int .i64 ds[k].val] 37)) := (Below.refl _ _).alloc (Nat.le_refl _) _
      have HBW : Hid (Below w.heap.size w (wr.alloc (.cells #[.string ds[k].name, .int .i64 ds[k].val] 37))) := Lib.hid (hbel.out.trans (hbW.mono hbel.out.size))
      have HOW := Lib.hid (own_below hown.out hbW)
      clear hbW
      go_wp2_with (at_builtin; refine wpList_app_S rfl _ _ rfl w.heap.size _ _ _ rfl HOW.out _ _ _ rfl (by first | rfl | simp) (by omega) HBW.out.size ?_; intro v' w1 ho1 hb1; have HO1 := Lib.hid ho1; have HB1 := Lib.hid hb1; clear ho1 hb1)
      go_roundw
      case rel => exact ⟨k + 1, by omega, by go_num, Lib.hid (by rw [HT.out]; exact HO1.out), Lib.hid (HBW.out.trans HB1.out)⟩
      case measure => simp [intOf]; omega
    · obtain rfl : k = ds.length := by omega
      go_wp2
      go_ret
      obtain ⟨A', c', hv⟩ := own_form hown.out
      subst hv
      have h2 := hown.out
      rw [List.take_of_length_le (Nat.le_refl _)] at h2
      exact ⟨A', c', by rw [List.length_map]; rfl, by rw [List.length_map]; exact h2, hbel.out⟩

/-! ### what a bound does with bits that are not named -/
def bdF (b : Int) : Value := .func (.func (if b = 0 then 142 else if b = 1 then 143 else if b = 2 then 144 else 145)) #[] #[]
set_option maxHeartbeats 400000 in
theorem refuse_any (n m : Int) (w : World) : Calls Try.prog 142 #[.int .i64 n, .int .i64 m] w fun e w' => e = .returned (.tuple #[.int .i64 0, .int .i64 2]) ∧ w = w' := by
  go_enter Try.func142, Try.ntmps142
  go_wp2
  go_ret2
  exact ⟨rfl, rfl⟩
set_option maxHeartbeats 400000 in
theorem leaveOut_any (n m : Nat) (w : World) (hn : n < 4096) (hm : m < 4096) : Calls Try.prog 143 #[.int .i64 n, .int .i64 m] w fun e w' => e = .returned (.tuple #[.int .i64 ((n &&& m : Nat) : Int), .int .i64 0]) ∧ w = w' := by
  have h := i64_and_nat n m (by omega) (by omega)
  go_enter Try.func143, Try.ntmps143
  go_wp2
  go_ret2
  exact ⟨rfl, rfl⟩
set_option maxHeartbeats 400000 in
theorem eject_any (n m : Int) (w : World) : Calls Try.prog 144 #[.int .i64 n, .int .i64 m] w fun e w' => e = .returned (.tuple #[.int .i64 n, .int .i64 1]) ∧ w = w' := by
  go_enter Try.func144, Try.ntmps144
  go_wp2
  go_ret2
  exact ⟨rfl, rfl⟩
set_option maxHeartbeats 400000 in
theorem keep_any (n m : Int) (w : World) : Calls Try.prog 145 #[.int .i64 n, .int .i64 m] w fun e w' => e = .returned (.tuple #[.int .i64 n, .int .i64 0]) ∧ w = w' := by
  go_enter Try.func145, Try.ntmps145
  go_wp2
  go_ret2
  exact ⟨rfl, rfl⟩
end Go.Proofs.Ytbkfagncoekbkaa
