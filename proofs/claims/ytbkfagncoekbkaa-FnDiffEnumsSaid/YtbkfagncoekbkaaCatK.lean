import Derived.Test.YtbkfagncoekbkaaBaseC
namespace Go.Proofs.Ytbkfagncoekbkaa
open Go.RowKit
set_option linter.unusedVariables false
set_option maxRecDepth 100000

theorem one_K (xs : List Ch) : ∀ u ∈ xs.flatMap encK, u.oneCell' = true := by
  intro u hu
  obtain ⟨d, _, hd⟩ := List.mem_flatMap.1 hu
  simp [encK] at hd
  rcases hd with rfl | rfl | rfl | rfl <;> rfl

theorem zeros_K (m : Nat) : ∀ u ∈ (Builtin.zeroCells (.agg #[.int .i64 0, .string ByteArray.empty, .int .i64 0, .int .i64 0] : Value).cells m).toList, u.oneCell' = true := by
  intro u hu
  have hc : (.agg #[.int .i64 0, .string ByteArray.empty, .int .i64 0, .int .i64 0] : Value).cells = #[.int .i64 0, .string ByteArray.empty, .int .i64 0, .int .i64 0] := by rfl
  rw [hc] at hu
  unfold Builtin.zeroCells at hu
  simp only [Array.mem_toList_iff, Array.mem_map] at hu
  obtain ⟨i, _, rfl⟩ := hu
  have h4 : i % (#[.int .i64 0, .string ByteArray.empty, .int .i64 0, .int .i64 0] : Array Value).size < 4 := Nat.mod_lt _ (by decide)
  generalize i % (#[.int .i64 0, .string ByteArray.empty, .int .i64 0, .int .i64 0] : Array Value).size = r at h4 ⊢
  match r, h4 with
  | 0, _ => rfl
  | 1, _ => rfl
  | 2, _ => rfl
  | 3, _ => rfl
  | r + 4, h => omega

set_option maxHeartbeats 1000000 in
theorem growK_any (m : Nat) (w : World) (hm : m ≤ 1000) :
    Calls Try.prog 159 #[.slice none 0 0, .int .i64 m] w fun e w' => ∃ A c, e = .returned (.slice A 0 c) ∧ w'.ownsRow w.heap.size 128 4 (.slice A 0 c) 0 [] ∧ Below w.heap.size w w' := by
  rcases Nat.eq_zero_or_pos m with rfl | hpos
  · go_enter Try.func159, Try.ntmps159
    go_wp2
    go_ret
    exact ⟨none, 0, rfl, World.ownsRow_nil _ _ _ _, Below.refl _ _⟩
  · have h1 : (0 : Int) < (m : Int) := by omega
    have hmi : (m : Int) ≤ 1000 := by omega
    obtain ⟨i0, hi, hz0, hz1, hz2⟩ := info_parts info_K
    have HI := Lib.hid (And.intro hi (And.intro hz0 (And.intro hz1 hz2)))
    clear hi hz0 hz1 hz2
    go_enter Try.func159, Try.ntmps159
    go_wp2_with (
      at_builtin
      refine wpList_append_own_zeros _ rfl _ _ _ _ rfl w.heap.size _ i0 _ .i64 .i64 4 40 Try.underlying69 Try.underlying3 HI.out.1 HI.out.2.1 HI.out.2.2.1 HI.out.2.2.2 rfl (by omega) (.slice none 0 0) 0 [] (by rfl) (World.ownsRow_nil _ _ _ _) m (by first | rfl | simp) (by omega) hm (zeros_K m) (by unfold maxLen; omega) (by omega) (Nat.le_refl _) ?_
      intro v' w1 ho hg
      rw [Nat.zero_add] at ho
      obtain ⟨A1, c1, rfl⟩ := own_form ho
      have HO := Lib.hid (own_cut0 ho (by omega))
      have HC : (0 : Int) ≤ (c1 : Int) := by omega
      have HB : Hid (Below w.heap.size w w1) := Lib.hid ((Below.refl _ _).grown hg (Nat.le_refl _) (fun k hk => by cases hk))
      clear ho hg)
    go_ret
    exact ⟨A1, c1, rfl, HO.out, HB.out⟩

/-- A fresh row of elements. -/
def FreshK (xs : List Ch) (w : World) (e : Ending) (w' : World) : Prop :=
  ∃ A c, e = .returned (.slice A xs.length c) ∧ w'.ownsRow w.heap.size 128 4 (.slice A xs.length c) xs.length (xs.flatMap encK) ∧ Below w.heap.size w w'

set_option maxHeartbeats 2000000 in
theorem concatK_any (ps : List (Part Ch)) (A : Option Addr) (k c : Nat) (w : World) (hp : Rd w w.heap.size 1 encP A ps) (hl : ps.length = k) (hk : k ≤ c) (hc : c ≤ 1000)
    (hs : ∀ p ∈ ps, SL encK 4 w w.heap.size p.A p.n p.c p.xs) (ht : (cat ps).length ≤ 1000) :
    Calls Try.prog 118 #[.slice A k c] w (FreshK (cat ps) w) := by
  subst hl
  have HP := Lib.hid hp
  have HS := Lib.hid hs
  have HT := Lib.hid ht
  clear hp hs ht
  obtain ⟨i0, hi, hz0, hz1, hz2⟩ := info_parts info_K
  have HI := Lib.hid (And.intro hi (And.intro hz0 (And.intro hz1 hz2)))
  clear hi hz0 hz1 hz2
  go_enter Try.func118, Try.ntmps118
  go_wp2
  go_loop [3, 11] (fun s i => ∃ j m : Nat, j ≤ ps.length ∧ i = .int .i64 j ∧ s = .int .i64 m ∧ m ≤ 1000 ∧ Hid (m = (cat (ps.take j)).length)) (fun _ i => ps.length - (intOf i).toNat)
  case atStart => exact ⟨0, 0, Nat.zero_le _, rfl, rfl, by omega, Lib.hid rfl⟩
  case round =>
    obtain ⟨j, m, hj, rfl, rfl, hm, hcnt⟩ := hrel
    by_cases hlt : j < ps.length
    · obtain ⟨b, o, rfl, hb, hcell⟩ := HP.out.at_ hlt
      have c1 : w.cell? ⟨b, o + j, none⟩ = some (.slice ps[j].A ps[j].n ps[j].c) := by simpa using hcell 0 _ rfl
      have HL := Lib.hid (HS.out _ (List.getElem_mem hlt)).len
      have HSN := Lib.hid (cat_snoc ps j hlt)
      have hle : m + ps[j].n ≤ 1000 := by
        have h1 := cat_le ps (j + 1)
        rw [HSN.out, List.length_append, HL.out, ← hcnt.out] at h1
        have := HT.out
        omega
      clear hcell
      have hneg : ¬ ((m : Int) + (ps[j].n : Int) < 0) := by omega
      have hb1 : (0 : Int) ≤ (m : Int) := by omega
      have hb2 : (0 : Int) ≤ (ps[j].n : Int) := by omega
      have hb3 : (m : Int) + (ps[j].n : Int) ≤ 1000 := by omega
      go_wp2
      go_round
      case rel => exact ⟨j + 1, m + ps[j].n, by omega, by go_num, by go_num, hle, Lib.hid (by rw [HSN.out, List.length_append, HL.out, hcnt.out])⟩
      case measure => simp [intOf]; omega
    · obtain rfl : j = ps.length := by omega
      have HM : Hid (m = (cat ps).length) := Lib.hid (by have := hcnt.out; rwa [List.take_of_length_le (Nat.le_refl _)] at this)
      go_wp2_with (go_at_call 159; refine (growK_any m _ hm).mono ?_; rintro e w1 ⟨A1, c1, rfl, ho, hb⟩; have HO := Lib.hid ho; have HB := Lib.hid hb; clear ho hb)
      go_loopw [6, 27] (fun v i wr => ∃ j q : Nat, j ≤ ps.length ∧ i = .int .i64 j ∧ Hid (q = (cat (ps.take j)).length) ∧ q ≤ 1000 ∧ Hid (wr.ownsRow w.heap.size 128 4 v q ((cat (ps.take j)).flatMap encK)) ∧ Hid (Below w.heap.size w wr)) (fun _ i _ => ps.length - (intOf i).toNat)
      case atStart => exact ⟨0, 0, Nat.zero_le _, rfl, Lib.hid rfl, by omega, HO, HB⟩
      case round =>
        clear HO HB HM hcnt
        obtain ⟨j, q, hj, rfl, hq, hq1, hown, hbel⟩ := hrel
        by_cases hlt : j < ps.length
        · obtain ⟨b, o, rfl, hb, hcell⟩ := (HP.out.below hbel.out).at_ hlt
          have c1 : wr.cell? ⟨b, o + j, none⟩ = some (.slice ps[j].A ps[j].n ps[j].c) := by simpa using hcell 0 _ rfl
          have HSJ := Lib.hid ((HS.out _ (List.getElem_mem hlt)).below hbel.out)
          have HSN := Lib.hid (cat_snoc ps j hlt)
          have hle : q + ps[j].n ≤ 1000 := by
            have h1 := cat_le ps (j + 1)
            rw [HSN.out, List.length_append, HSJ.out.len, ← hq.out] at h1
            have := HT.out
            omega
          clear hcell
          go_wp2_with (
            at_builtin
            refine wpList_app_src rfl _ _ _ rfl w.heap.size _ i0 _ 4 40 Try.underlying69 HI.out rfl (by omega) (by omega) _ q _ rfl hown.out _ _ _ _ rfl (HSJ.out.src (fun _ => rfl)) (one_K _) (by omega) hbel.out.size ?_
            intro v' w2 ho hg
            have HO := Lib.hid ho
            have HB : Hid (Below w.heap.size w w2) := Lib.hid (hbel.out.grown hg hbel.out.size (fun k hk => (hown.out.lt k hk).1))
            clear ho hg)
          go_roundw
          case rel => exact ⟨j + 1, q + ps[j].n, by omega, by go_num, Lib.hid (by rw [HSN.out, List.length_append, HSJ.out.len, hq.out]), hle, Lib.hid (by rw [HSN.out, List.flatMap_append]; exact HO.out), HB⟩
          case measure => simp [intOf]; omega
        · obtain rfl : j = ps.length := by omega
          go_wp2
          go_ret
          have h2 := hown.out
          rw [hq.out, List.take_of_length_le (Nat.le_refl _)] at h2
          obtain ⟨A', c', hv⟩ := own_form h2
          subst hv
          exact ⟨A', c', rfl, h2, hbel.out⟩
theorem concatK_v (ps : List (Part Ch)) (A : Option Addr) (k c : Nat) (w : World) (hp : Rd w w.heap.size 1 encP A ps) (hl : ps.length = k) (hk : k ≤ c) (hc : c ≤ 1000)
    (hs : ∀ p ∈ ps, SL encK 4 w w.heap.size p.A p.n p.c p.xs) {xs : List Ch} (hx : cat ps = xs) (ht : xs.length ≤ 1000) :
    Calls Try.prog 118 #[.slice A k c] w fun e w' => FreshK xs w e w' := hx ▸ concatK_any ps A k c w hp hl hk hc hs (hx ▸ ht)
end Go.Proofs.Ytbkfagncoekbkaa
