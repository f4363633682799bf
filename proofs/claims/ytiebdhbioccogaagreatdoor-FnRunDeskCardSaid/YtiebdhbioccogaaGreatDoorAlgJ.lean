import Derived.Test.YtiebdhbioccogaaGreatDoorAlgI
import Derived.Test.YtiebdhbioccogaaGreatDoorAppW
import Derived.Test.YtiebdhbioccogaaGreatDoorBaseC
namespace Go.Proofs.YtiebdhbioccogaaGreatDoor
open Go.RowKit Go.Maps
set_option linter.unusedVariables false
set_option maxRecDepth 100000

set_option maxHeartbeats 4000000 in
theorem implWithin_any (ds : List D) (a : Nat) (A : Option Addr) (n c : Nat) (w : World) (hr : SD w w.heap.size A n c ds) (hin : ∀ d ∈ ds, inR d) (hn : n ≤ 1048576) (ha : a < 4096) :
    Calls Tryz.prog 126 #[.slice A n c, .int .i64 a] w (DefsP (mWithin ds a) w) := by
  obtain rfl := hr.len
  have hl := hr.max
  have hl2 := hr.cap
  unfold maxLen at hl
  have HR := Lib.hid hr
  have HIN := Lib.hid hin
  clear hr hin
  go_enter Tryz.func126, Tryz.ntmps126
  go_wp2
  go_loopw [5, 10] (fun v i wr => ∃ k : Nat, k ≤ ds.length ∧ i = .int .i64 k ∧ Hid (wr.ownsRow w.heap.size 108 2 v (inTo ds a k).length (flat (inTo ds a k))) ∧ Hid (Below w.heap.size w wr)) (fun _ i _ => ds.length - (intOf i).toNat)
  case atStart => exact ⟨0, Nat.zero_le _, rfl, Lib.hid (World.ownsRow_nil _ _ _ _), Lib.hid (Below.refl _ _)⟩
  case round =>
    obtain ⟨k, hk, rfl, hown, hbel⟩ := hrel
    by_cases hlt : k < ds.length
    · obtain ⟨b, o, rfl, hb, c1, c2⟩ := (HR.out.below hbel.out).at_ hlt
      have hi1 : (k : Int) < (ds.length : Int) := by omega
      have HI := Lib.hid (HIN.out _ (List.getElem_mem hlt))
      obtain ⟨x, hx⟩ : ∃ x : Nat, ds[k].val = x := ⟨ds[k].val.toNat, (Int.toNat_of_nonneg HI.out.1).symm⟩
      have hx4 : x < 4096 := by have := HI.out.2; omega
      have HT := Lib.hid (inTo_succ ds a k hlt)
      have HE : Hid (encD ds[k] = [.string ds[k].name, .int .i64 x]) := Lib.hid (by unfold encD; rw [hx])
      have HL := Lib.hid (inTo_len ds a k)
      obtain ⟨v, hv⟩ : ∃ v, decide (nl x a = 0) = v := ⟨_, rfl⟩
      have HC : Hid (fitIn a ds[k] = v) := Lib.hid (by unfold fitIn; rw [hx]; exact hv)
      have HV := Lib.hid hv
      rw [hx] at c2
      clear hx hv
      have l0 : (wr.alloc (.cells #[.string ds[k].name, .int .i64 x] 108)).cell? ⟨wr.heap.size, 0, none⟩ = some (.string ds[k].name) := by simp [go_sem]
      have l1 : (wr.alloc (.cells #[.string ds[k].name, .int .i64 x] 108)).cell? ⟨wr.heap.size, 1, none⟩ = some (.int .i64 x) := by simp [go_sem]
      have hbW : Below wr.heap.size wr (wr.alloc (.cells #[.string ds[k].name, .int .i64 x] 108)) := (Below.refl _ _).alloc (Nat.le_refl _) _
      have HBW : Hid (Below w.heap.size w (wr.alloc (.cells #[.string ds[k].name, .int .i64 x] 108))) := Lib.hid (hbel.out.trans (hbW.mono hbel.out.size))
      have HOW := Lib.hid (own_below hown.out hbW)
      clear hbW
      cases v
      · have HTT : Hid (inTo ds a (k + 1) = inTo ds a k) := Lib.hid (by rw [HT.out, HC.out]; simp)
        go_wp2_with (go_at_call 154; refine (bsHas_v a x _ ha hx4 HV.out).mono ?_; rintro e w' ⟨rfl, rfl⟩)
        go_roundw
        case rel => exact ⟨k + 1, by omega, by go_num, Lib.hid (by rw [HTT.out]; exact HOW.out), HBW⟩
        case measure => simp [intOf]; omega
      · have HTT : Hid (inTo ds a (k + 1) = inTo ds a k ++ [ds[k]]) := Lib.hid (by rw [HT.out, HC.out]; rfl)
        go_wp2_with (first | (go_at_call 154; refine (bsHas_v a x _ ha hx4 HV.out).mono ?_; rintro e w' ⟨rfl, rfl⟩) | (at_builtin; refine wpList_app_Df rfl _ _ rfl w.heap.size _ _ _ rfl HOW.out _ _ _ _ rfl (by first | rfl | simp) (by have := HL.out; omega) HBW.out.size ?_; intro v' w3 ho1 hb1; have HO1 := Lib.hid ho1; have HB1 := Lib.hid hb1; clear ho1 hb1))
        go_roundw
        case rel => exact ⟨k + 1, by omega, by go_num, Lib.hid (by rw [HTT.out, List.length_append]; simpa [flat, HE.out] using HO1.out), Lib.hid (HBW.out.trans HB1.out)⟩
        case measure => simp [intOf]; omega
    · obtain rfl : k = ds.length := by omega
      go_wp2
      go_ret
      obtain ⟨A', c', hv⟩ := own_form hown.out
      subst hv
      have h2 := hown.out
      have e1 : inTo ds a ds.length = mWithin ds a := by unfold inTo; rw [List.take_of_length_le (Nat.le_refl _)]
      rw [e1] at h2 ⊢
      exact ⟨A', c', rfl, h2, hbel.out⟩
end Go.Proofs.YtiebdhbioccogaaGreatDoor
