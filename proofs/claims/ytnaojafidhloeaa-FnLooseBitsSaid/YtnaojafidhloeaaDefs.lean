import Derived.Test.YtnaojafidhloeaaName
import Derived.Test.YtnaojafidhloeaaWords
import Derived.Deep.QuietTactic
import Derived.BigQuiet
namespace Go.Proofs.Ytnaojafidhloeaa
open Go.RowKit
set_option linter.unusedVariables false
set_option maxRecDepth 100000
theorem ret_int {a b : Int} (h : a = b) : Ending.returned (.int .i64 a) = .returned (.int .i64 b) := by rw [h]


theorem quiet_eq {P : Program} {f : FuncId} {args : Array Value} {w : World} {n : Nat} {v : Value}
    (h : Calls P f args (w.drewN n) fun e w' => e = .returned v ∧ w.drewN n = w') : Calls P f args (w.drewN n) fun e w'' => e = .returned v ∧ ∃ m, w'' = w.drewN m :=
  h.mono fun _ _ ⟨he, hm⟩ => ⟨he, n, hm.symm⟩

set_option maxHeartbeats 400000 in
theorem indexOf_any (ds : List D) (s : ByteArray) (A : Option Addr) (c n : Nat) (w : World) (hr : SD w w.heap.size A n c ds) :
    Calls Try.prog 102 #[.slice A n c, .string s] w fun e w' => e = .returned (.int .i64 (fidx (isNm s) ds)) ∧ w = w' := by
  obtain rfl := hr.len
  have hl := hr.max
  have hl2 := hr.cap
  unfold maxLen at hl
  have HR := Lib.hid hr
  clear hr
  go_enter Try.func102, Try.ntmps102
  go_wp2
  go_loop [5] (fun i => ∃ k : Nat, k ≤ ds.length ∧ i = .int .i64 k ∧ Hid (noTo (isNm s) ds k)) (fun i => ds.length - (intOf i).toNat)
  case atStart => exact ⟨0, Nat.zero_le _, rfl, Lib.hid (noTo_zero _ _)⟩
  case round =>
    obtain ⟨k, hk, rfl, hok⟩ := hrel
    by_cases hlt : k < ds.length
    · obtain ⟨b, o, rfl, hb, c1, c2⟩ := HR.out.at_ hlt
      cases hp : isNm s ds[k]
      · have hp1 : (ds[k].name.toList == s.toList) = false := hp
        have HP := Lib.hid hp
        clear hp
        go_wp2
        go_round
        case rel => exact ⟨k + 1, by omega, by go_num, Lib.hid (noTo_succ hok.out hlt HP.out)⟩
        case measure => simp [intOf]; omega
      · have hp1 : (ds[k].name.toList == s.toList) = true := hp
        have HP := Lib.hid hp
        clear hp
        go_wp2
        go_ret
        exact ⟨ret_int (fidx_some hok.out hlt HP.out).symm, rfl⟩
    · obtain rfl : k = ds.length := by omega
      go_wp2
      go_ret
      exact ⟨ret_int (fidx_none hok.out).symm, rfl⟩

set_option maxHeartbeats 400000 in
theorem valueAt_any (ds : List D) (x : Int) (A : Option Addr) (c n : Nat) (w : World) (hr : SD w w.heap.size A n c ds) :
    Calls Try.prog 104 #[.slice A n c, .int .i64 x] w fun e w' => e = .returned (.int .i64 (fidx (isVal x) ds)) ∧ w = w' := by
  obtain rfl := hr.len
  have hl := hr.max
  have hl2 := hr.cap
  unfold maxLen at hl
  have HR := Lib.hid hr
  clear hr
  go_enter Try.func104, Try.ntmps104
  go_wp2
  go_loop [5] (fun i => ∃ k : Nat, k ≤ ds.length ∧ i = .int .i64 k ∧ Hid (noTo (isVal x) ds k)) (fun i => ds.length - (intOf i).toNat)
  case atStart => exact ⟨0, Nat.zero_le _, rfl, Lib.hid (noTo_zero _ _)⟩
  case round =>
    obtain ⟨k, hk, rfl, hok⟩ := hrel
    by_cases hlt : k < ds.length
    · obtain ⟨b, o, rfl, hb, c1, c2⟩ := HR.out.at_ hlt
      cases hp : isVal x ds[k]
      · have hp1 : (ds[k].val == x) = false := hp
        have HP := Lib.hid hp
        clear hp
        go_wp2
        go_round
        case rel => exact ⟨k + 1, by omega, by go_num, Lib.hid (noTo_succ hok.out hlt HP.out)⟩
        case measure => simp [intOf]; omega
      · have hp1 : (ds[k].val == x) = true := hp
        have HP := Lib.hid hp
        clear hp
        go_wp2
        go_ret
        exact ⟨ret_int (fidx_some hok.out hlt HP.out).symm, rfl⟩
    · obtain rfl : k = ds.length := by omega
      go_wp2
      go_ret
      exact ⟨ret_int (fidx_none hok.out).symm, rfl⟩
theorem indexOf_v (ds : List D) (s : ByteArray) (A : Option Addr) (c n : Nat) (w : World) (hr : SD w w.heap.size A n c ds) {v : Int} (hv : fidx (isNm s) ds = v) :
    Calls Try.prog 102 #[.slice A n c, .string s] w fun e w' => e = .returned (.int .i64 v) ∧ w = w' := hv ▸ indexOf_any ds s A c n w hr
theorem valueAt_v (ds : List D) (x : Int) (A : Option Addr) (c n : Nat) (w : World) (hr : SD w w.heap.size A n c ds) {v : Int} (hv : fidx (isVal x) ds = v) :
    Calls Try.prog 104 #[.slice A n c, .int .i64 x] w fun e w' => e = .returned (.int .i64 v) ∧ w = w' := hv ▸ valueAt_any ds x A c n w hr

set_option maxHeartbeats 1000000 in
theorem validDefs_any (ds : List D) (lo hi : Int) (A : Option Addr) (c n : Nat) (w : World) (hr : SD w w.heap.size A n c ds) :
    Calls Try.prog 85 #[.slice A n c, .int .i64 lo, .int .i64 hi] w fun e w' => e = .returned (.bool (vDefs lo hi ds)) ∧ ∃ n, w' = w.drewN n := by
  obtain rfl := hr.len
  have hl := hr.max
  have hl2 := hr.cap
  unfold maxLen at hl
  have HR := Lib.hid hr
  clear hr
  go_enter Try.func85, Try.ntmps85
  go_wp2
  go_loopw [7] (fun i wr => ∃ k : Nat, k ≤ ds.length ∧ i = .int .i64 k ∧ Hid (goodTo lo hi ds k) ∧ Hid (∃ n, wr = w.drewN n)) (fun i _ => ds.length - (intOf i).toNat)
  case atStart => exact ⟨0, Nat.zero_le _, rfl, Lib.hid (goodTo_zero _ _ _), Lib.hid ⟨0, rfl⟩⟩
  case round =>
    obtain ⟨k, hk, rfl, hok, hwn⟩ := hrel
    have HRr : Hid (SD wr w.heap.size A ds.length c ds) := Lib.hid (by obtain ⟨n, rfl⟩ := hwn.out; exact HR.out.drewN n)
    have HQ : ∀ m, Hid (∃ n, wr.drewN m = w.drewN n) := fun m => Lib.hid (by obtain ⟨n, rfl⟩ := hwn.out; exact ⟨_, World.drewN_drewN _ _ _⟩)
    have HB : Hid (w.heap.size = wr.heap.size) := Lib.hid (by obtain ⟨n, rfl⟩ := hwn.out; rfl)
    by_cases hlt : k < ds.length
    · obtain ⟨b, o, rfl, hb, c1, c2⟩ := HRr.out.at_ hlt
      have HN := Lib.hid (HR.out.ok _ (List.getElem_mem hlt)).1
      have HT : Hid (∀ m, SD (wr.drewN m) (wr.drewN m).heap.size (some ⟨b, o, none⟩) k c (ds.take k)) := Lib.hid (fun m => by rw [World.heap_drewN, ← HB.out]; exact (HRr.out.take_ k (by omega)).drewN m)
      have HG : Hid (goodAt lo hi ds k ds[k] = (vName ds[k].name && (decide (lo ≤ ds[k].val) && decide (ds[k].val ≤ hi)) && decide (fidx (isNm ds[k].name) (ds.take k) < 0))) := Lib.hid rfl
      have hi1 : (k : Int) < (ds.length : Int) := by omega
      have hi2 : (k : Int) ≤ (c : Int) := by omega
      cases hv : vName ds[k].name
      · have H1 := Lib.hid hv
        clear hv
        go_wp2
        go_quiet ((first | (go_at_call 101; exact quiet_eq (specName_v _ _ HN.out H1.out))))
        go_wp2
        go_ret
        exact ⟨ret_bool (vDefs_bad hlt (by rw [HG.out, H1.out]; rfl)).symm, (HQ _).out⟩
      · have H1 := Lib.hid hv
        clear hv
        cases hv2 : (decide (lo ≤ ds[k].val) && decide (ds[k].val ≤ hi))
        · have H2 := Lib.hid hv2
          clear hv2
          go_wp2
          go_quiet ((first | (go_at_call 101; exact quiet_eq (specName_v _ _ HN.out H1.out)) | (go_at_call 68; exact quiet_eq (inRange_v _ _ _ _ H2.out))))
          go_wp2
          go_ret
          exact ⟨ret_bool (vDefs_bad hlt (by rw [HG.out, H1.out, H2.out]; rfl)).symm, (HQ _).out⟩
        · have H2 := Lib.hid hv2
          clear hv2
          rcases fidx_cases (isNm ds[k].name) (ds.take k) with ⟨hx, _⟩ | ⟨j, _, hx, _, _⟩
          · have H3 := Lib.hid hx
            clear hx
            go_wp2
            go_quiet ((first | (go_at_call 101; exact quiet_eq (specName_v _ _ HN.out H1.out)) | (go_at_call 68; exact quiet_eq (inRange_v _ _ _ _ H2.out)) | (go_at_call 102; exact quiet_eq (indexOf_v (ds.take k) _ _ _ _ _ (HT.out _) H3.out))))
            go_wp2
            go_roundw
            case rel => exact ⟨k + 1, by omega, by go_num, Lib.hid (goodTo_succ hok.out hlt (by rw [HG.out, H1.out, H2.out, H3.out]; rfl)), HQ _⟩
            case measure => simp [intOf]; omega
          · have H3 := Lib.hid hx
            clear hx
            go_wp2
            go_quiet ((first | (go_at_call 101; exact quiet_eq (specName_v _ _ HN.out H1.out)) | (go_at_call 68; exact quiet_eq (inRange_v _ _ _ _ H2.out)) | (go_at_call 102; exact quiet_eq (indexOf_v (ds.take k) _ _ _ _ _ (HT.out _) H3.out))))
            go_wp2
            go_ret
            exact ⟨ret_bool (vDefs_bad hlt (by rw [HG.out, H1.out, H2.out, H3.out]; simp)).symm, (HQ _).out⟩
    · obtain rfl : k = ds.length := by omega
      have HE := Lib.hid (vDefs_end hok.out)
      by_cases h12 : ds.length ≤ 12
      all_goals
        go_wp2
        go_ret
        exact ⟨ret_bool (by rw [HE.out]; simp [h12]; omega), hwn.out⟩
end Go.Proofs.Ytnaojafidhloeaa
