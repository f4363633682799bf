import Derived.Test.YtpmanbmhbfnefaaShwP
import Derived.Test.YtpmanbmhbfnefaaBaseB
import Derived.Test.YtpmanbmhbfnefaaCel
import Derived.Test.YtpmanbmhbfnefaaBaseQ
import Derived.Test.YtpmanbmhbfnefaaBaseS
import Derived.Test.YtpmanbmhbfnefaaAlgS
import Derived.Test.YtpmanbmhbfnefaaBaseD
import Derived.Test.YtpmanbmhbfnefaaBaseC
namespace Go.Proofs.Ytpmanbmhbfnefaa
open Go.RowKit
set_option linter.unusedVariables false
set_option linter.unusedSimpArgs false
set_option maxRecDepth 100000


end Go.Proofs.Ytpmanbmhbfnefaa

namespace Go.Proofs.Ytpmanbmhbfnefaa
open Go.RowKit
set_option linter.unusedVariables false
set_option linter.unusedSimpArgs false
set_option maxRecDepth 100000

theorem one_Sv (xs : List ByteArray) : ∀ u ∈ xs.flatMap encS, u.oneCell' = true := by
  intro u hu
  obtain ⟨s, _, h⟩ := List.mem_flatMap.1 hu
  rw [List.mem_singleton.1 h]; rfl
theorem flatS_enc (ws : List ByteArray) : ws.flatMap encS = flatS ws := by
  induction ws with
  | nil => rfl
  | cons s r ih => rw [List.flatMap_cons, ih]; rfl
theorem SS.slv {w : World} {B n c : Nat} {A : Option Addr} {ss : List ByteArray} (h : SS w B A n c ss) : SL encS 1 w B A n c ss := ⟨h.rd, h.len, h.cap, h.max⟩



end Go.Proofs.Ytpmanbmhbfnefaa

namespace Go.Proofs.Ytpmanbmhbfnefaa
open Go.RowKit
set_option linter.unusedVariables false
set_option linter.unusedSimpArgs false
set_option maxRecDepth 100000

theorem seven_cell {w : World} {b o : Nat} {s : ByteArray} (h : w.cell? ⟨b, o, none⟩ = some (.string s)) : w.cell? ⟨b, o, none⟩ = some (.string s) := h

/-! ### the model's reading of texts -/

end Go.Proofs.Ytpmanbmhbfnefaa

namespace Go.Proofs.Ytpmanbmhbfnefaa
open Go.RowKit
set_option linter.unusedVariables false
set_option linter.unusedSimpArgs false
set_option maxRecDepth 100000

/-! ### what is read so far -/
def rdAt (ds : List D) (ws : List ByteArray) (k o : Nat) : Prop := (o < 4096 ∧ rdTo ds ws 0 = rdTo ds (ws.drop k) o) ∨ (4096 ≤ o ∧ rdTo ds ws 0 = none)
theorem rdAt_zero (ds : List D) (ws : List ByteArray) : rdAt ds ws 0 0 := .inl ⟨by decide, rfl⟩
theorem rdAt_bad {ds : List D} {ws : List ByteArray} {k o : Nat} (hk : k < ws.length) (h : rdAt ds ws k o) (hn : ¬ (0 ≤ partV ds ws[k] ∧ partV ds ws[k] ≤ 4095)) : rdTo ds ws 0 = none := by
  rcases h with ⟨_, h⟩ | ⟨_, h⟩
  · rw [h, List.drop_eq_getElem_cons hk, rdTo, if_neg hn]
  · exact h
theorem rdAt_step {ds : List D} {ws : List ByteArray} {k o n : Nat} (hk : k < ws.length) (h : rdAt ds ws k o) (hn : partV ds ws[k] = n) (hn2 : n ≤ 4096) : rdAt ds ws (k + 1) (o + n - (o &&& n) % 4096) := by
  have h1 : (o &&& n) % 4096 ≤ o := Nat.le_trans (Nat.mod_le _ _) (and_le o n)
  have h2 : (o &&& n) % 4096 ≤ n := Nat.le_trans (Nat.mod_le _ _) (by rw [Nat.and_comm]; exact and_le n o)
  by_cases hn4 : n ≤ 4095
  · rcases h with ⟨ho, h⟩ | ⟨ho, h⟩
    · have h3 := and_lt (b := n) ho
      have h4 := or_add_and o n
      have h5 : (o &&& n) % 4096 = o &&& n := Nat.mod_eq_of_lt h3
      have h6 : o + n - (o &&& n) % 4096 = o ||| n := by rw [h5]; omega
      rw [h6]
      refine .inl ⟨or_lt ho (by omega), ?_⟩
      rw [h, List.drop_eq_getElem_cons hk, rdTo, if_pos ⟨by omega, by omega⟩, hn, Int.toNat_natCast]
    · exact .inr ⟨by omega, h⟩
  · have h3 := rdAt_bad hk h (by omega)
    exact .inr ⟨by omega, h3⟩
theorem rdAt_end {ds : List D} {ws : List ByteArray} {b : Int} {s : ByteArray} {o : Nat} (hs : splitT 124 s = ws) (h : rdAt ds ws ws.length o) : rdV ds b s = if mIsV ds b (o : Int) then (o : Int) else -1 := by
  subst hs
  rcases h with ⟨ho, h⟩ | ⟨ho, h⟩
  · rw [List.drop_eq_nil_of_le (Nat.le_refl _), rdTo] at h
    exact rdV_some h
  · rw [rdV_none h, if_neg]
    intro hh
    obtain ⟨p, e, hp⟩ := mIsV_nat hh
    omega

/-! ### the model's both and either, of numbers of any size -/
set_option maxHeartbeats 1000000 in
theorem bothG_any (a b : Nat) (w : World) (ha : a ≤ 1099511627776) (hb : b ≤ 4096) {v : Nat} (hv : (a &&& b) % 4096 = v) :
    Calls Try.prog 97 #[.int .i64 a, .int .i64 b] w fun e w' => e = .returned (.int .i64 v) ∧ w = w' := by
  subst hv
  go_enter Try.func97, Try.ntmps97
  go_wp2
  go_loop [5, 6] (fun s i => ∃ (k p q : Nat), k ≤ 12 ∧ 1 ≤ p ∧ p ≤ 4096 ∧ q ≤ 4096 ∧ i = .int .i64 p ∧ s = .int .i64 q ∧ Hid (p = 2 ^ k) ∧ Hid (q = (a &&& b) % 2 ^ k)) (fun _ i => 4096 - (intOf i).toNat)
  case atStart => exact ⟨0, 1, 0, by omega, by omega, by omega, by omega, rfl, rfl, Lib.hid rfl, Lib.hid (by simp [Nat.mod_one])⟩
  case round =>
    obtain ⟨k, p, q, hk, hp1, hp2, hq1, rfl, rfl, hp, hq⟩ := hrel
    by_cases h12 : k < 12
    · have hp3 : p ≤ 2048 := by rw [hp.out]; exact Nat.pow_le_pow_right (n := 2) (by decide) (show k ≤ 11 by omega)
      have HS := Lib.hid (both_succ a b k)
      have HP2 : Hid (p * 2 = 2 ^ (k + 1)) := Lib.hid (by rw [hp.out, Nat.pow_succ])
      have hql : q + p ≤ 4096 := by
        have := Nat.mod_lt (a &&& b) (show 0 < 2 ^ k from Nat.two_pow_pos k)
        rw [hq.out]; have := hp.out; omega
      obtain ⟨x, hx⟩ : ∃ x : Nat, a / p = x := ⟨_, rfl⟩
      obtain ⟨y, hy⟩ : ∃ y : Nat, b / p = y := ⟨_, rfl⟩
      have hxl : x ≤ 1099511627776 := by have := Nat.div_le_self a p; omega
      have hyl : y ≤ 4096 := by have := Nat.div_le_self b p; omega
      have dx : (a : Int) / (p : Int) = (x : Int) := by rw [← hx]; push_cast; rfl
      have dy : (b : Int) / (p : Int) = (y : Int) := by rw [← hy]; push_cast; rfl
      rw [← hp.out, hx, hy] at HS
      have HS' := Lib.hid HS.out
      have HQ0 : Hid (q = (a &&& b) % p) := Lib.hid (by rw [hp.out]; exact hq.out)
      clear hx hy HS
      by_cases ha1 : x % 2 = 1
      · have e1 : ((x : Int) % 2 == 1) = true := by rw [beq_iff_eq]; omega
        by_cases hb1 : y % 2 = 1
        · have e2 : ((y : Int) % 2 == 1) = true := by rw [beq_iff_eq]; omega
          have HQ : Hid (q + p = (a &&& b) % 2 ^ (k + 1)) := Lib.hid (by rw [HS'.out, if_pos ⟨ha1, hb1⟩, ← HQ0.out])
          clear ha1 hb1
          go_wp2
          go_round
          case rel => exact ⟨k + 1, p * 2, q + p, by omega, by omega, by omega, by omega, by go_num, by go_num, HP2, HQ⟩
          case measure => simp [intOf]; omega
        · have e2 : ((y : Int) % 2 == 1) = false := by rw [beq_eq_false_iff_ne]; omega
          have HQ : Hid (q = (a &&& b) % 2 ^ (k + 1)) := Lib.hid (by rw [HS'.out, if_neg (fun h => hb1 h.2), ← HQ0.out]; rfl)
          clear ha1 hb1
          go_wp2
          go_round
          case rel => exact ⟨k + 1, p * 2, q, by omega, by omega, by omega, by omega, by go_num, rfl, HP2, HQ⟩
          case measure => simp [intOf]; omega
      · have e1 : ((x : Int) % 2 == 1) = false := by rw [beq_eq_false_iff_ne]; omega
        have HQ : Hid (q = (a &&& b) % 2 ^ (k + 1)) := Lib.hid (by rw [HS'.out, if_neg (fun h => ha1 h.1), ← HQ0.out]; rfl)
        clear ha1
        go_wp2
        go_round
        case rel => exact ⟨k + 1, p * 2, q, by omega, by omega, by omega, by omega, by go_num, rfl, HP2, HQ⟩
        case measure => simp [intOf]; omega
    · obtain rfl : k = 12 := by omega
      have hp4 : p = 4096 := hp.out
      have hp5 : (4095 : Int) < (p : Int) := by omega
      have HQ : Hid (q = (a &&& b) % 4096) := Lib.hid hq.out
      clear hp4
      go_wp2
      go_ret
      exact ⟨by rw [HQ.out]; first | done | rfl, rfl⟩
set_option maxHeartbeats 400000 in
theorem eitherG_any (a b : Nat) (w : World) (ha : a ≤ 1099511627776) (hb : b ≤ 4096) {v : Nat} (hv : a + b - (a &&& b) % 4096 = v) :
    Calls Try.prog 96 #[.int .i64 a, .int .i64 b] w fun e w' => e = .returned (.int .i64 v) ∧ w = w' := by
  have hle : (a &&& b) % 4096 ≤ a := Nat.le_trans (Nat.mod_le _ _) (and_le a b)
  obtain ⟨x, hx⟩ : ∃ x, (a &&& b) % 4096 = x := ⟨_, rfl⟩
  have HX := Lib.hid hx
  rw [hx] at hv hle
  have HV : Hid ((a : Int) + (b : Int) - (x : Int) = (v : Int)) := Lib.hid (by omega)
  clear hx hv
  go_enter Try.func96, Try.ntmps96
  go_wp2_with (go_at_call 97; refine (bothG_any a b _ ha hb HX.out).mono ?_; rintro e w' ⟨rfl, rfl⟩)
  go_ret
  exact ⟨by rw [HV.out]; first | done | rfl, rfl⟩



end Go.Proofs.Ytpmanbmhbfnefaa

