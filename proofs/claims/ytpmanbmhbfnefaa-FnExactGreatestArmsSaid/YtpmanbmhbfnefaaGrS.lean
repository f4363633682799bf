import Derived.Test.YtpmanbmhbfnefaaGrP
import Derived.Test.YtpmanbmhbfnefaaMissS
import Derived.Test.YtpmanbmhbfnefaaZapT
import Derived.Deep.DeepCutAuto
import Derived.Deep.RegionHeld3
namespace Go.Proofs.Ytpmanbmhbfnefaa
open Go.RowKit Go.Maps
set_option linter.unusedVariables false
set_option linter.unusedSimpArgs false
set_option maxRecDepth 100000

set_option maxHeartbeats 8000000 in
theorem allIn_v (all list : List Int) (p q : Nat) (A B : Option Addr) (n c m d : Nat) (w : World) (ha : SI w w.heap.size A n c all) (hb : SI w w.heap.size B m d list) (hin : ∀ x ∈ all, ∃ t : Nat, x = (t : Int) ∧ t < 4096) (hp : p < 4096) (hq : q < 4096) {v : Bool} (hv : okIn all list p q = v) :
    Calls Try.prog 99 #[.slice A n c, .slice B m d, .agg #[.int .i64 p, .int .i64 q]] w fun e w' => e = .returned (.bool v) ∧ Below w.heap.size w w' := by
  subst hv
  obtain rfl := ha.len
  have hl := ha.max
  have hl2 := ha.cap
  unfold maxLen at hl
  have HIN := Lib.hid hin
  obtain ⟨w0, hw⟩ : ∃ W : World, W = (w.alloc (.cells #[.int .i64 p, .int .i64 q] 72)) := ⟨_, rfl⟩
  have hb0 : Below w.heap.size w w0 := by rw [hw]; exact (Below.refl _ _).alloc (Nat.le_refl _) _
  have c0_0 : w0.cell? ⟨w.heap.size, 0, none⟩ = some (.int .i64 p) := by rw [hw]; simp [go_sem]
  have c1_0 : w0.cell? ⟨w.heap.size, 1, none⟩ = some (.int .i64 q) := by rw [hw]; simp [go_sem]
  have HA_0 := Lib.hid ((ha.below hb0).call hb0.size)
  have HB_0 := Lib.hid ((hb.below hb0).call hb0.size)
  have HB0 := Lib.hid hb0
  have HW0 : Hid ((w.alloc (.cells #[.int .i64 p, .int .i64 q] 72)) = w0) := Lib.hid hw.symm
  clear ha hb hin hw hb0
  go_enter Try.func99, Try.ntmps99
  go_wp2
  rw [HW0.out]
  go_loopw [7] (fun i wr => ∃ k : Nat, k ≤ all.length ∧ i = .int .i64 k ∧ Hid (okIn (all.take k) list p q = true) ∧ Hid (Below w0.heap.size w0 wr)) (fun i _ => all.length - (intOf i).toNat)
  case atStart => exact ⟨0, Nat.zero_le _, rfl, Lib.hid rfl, Lib.hid (Below.refl _ _)⟩
  case round =>
    obtain ⟨k, hk, rfl, hok, hbel⟩ := hrel
    by_cases hlt : k < all.length
    · have c0_1 := keep1 hbel.out c0_0
      have c1_1 := keep1 hbel.out c1_0
      have HA_1 := Lib.hid ((HA_0.out.below hbel.out).call hbel.out.size)
      have HB_1 := Lib.hid ((HB_0.out.below hbel.out).call hbel.out.size)
      obtain ⟨b, o, hA, hbb, x1_1⟩ := HA_1.out.at_ hlt
      subst hA
      have HN := Lib.hid (okIn_snoc (list := list) (p := p) (q := q) hlt)
      have HNO : Hid ((!matchN p q all[k].toNat || list.any fun y => decide (y = all[k])) = false → okIn all list p q = false) := Lib.hid (okIn_no hlt)
      obtain ⟨t, ht, ht4⟩ := HIN.out _ (List.getElem_mem hlt)
      rw [ht] at HN HNO x1_1
      rw [Int.toNat_natCast] at HN HNO
      rw [hok.out, Bool.true_and] at HN
      have HTA := Lib.hid ht
      clear ht
      have hi1 : (k : Int) < (all.length : Int) := by omega
      have hi0 : (0 : Int) ≤ (k : Int) := by omega
      obtain ⟨mt, hmt⟩ : ∃ v, matchN p q t = v := ⟨_, rfl⟩
      have HMT := Lib.hid hmt
      rw [hmt] at HN HNO
      clear hmt
      clear c0_0 c1_0
      go_upto_region 4 with fail
      refine wp_region_held_drew (S := fun w' => w'.cell? ⟨w.heap.size, 0, none⟩ = some (.int .i64 p) ∧ w'.cell? ⟨w.heap.size, 1, none⟩ = some (.int .i64 q) ∧ w'.cell? ⟨b, o + k, none⟩ = some (.int .i64 t)) (by kernel_rfl) ⟨c0_1, c1_1, x1_1⟩ (fun hHeld => ?_)
      generalize hwd : wr.drew = w2 at hHeld ⊢
      have hb : Below wr.heap.size wr w2 := by rw [← hwd]; exact (Below.refl _ _).drew
      have c0_2 := keep1 hb c0_1
      have c1_2 := keep1 hb c1_1
      have x1_2 := keep1 hb x1_1
      have HA_2 := Lib.hid ((HA_1.out.below hb).call hb.size)
      have HB_2 := Lib.hid ((HB_1.out.below hb).call hb.size)
      have HL_2 : Hid (Below w0.heap.size w0 w2) := Lib.hid (hbel.out.trans (hb.mono hbel.out.size))
      clear c0_1 c1_1 x1_1 HA_1 HB_1 hbel
      clear hb hwd
      refine wpAnyH_take (i := 0) (v := ?_) rfl (by kernel_rfl) (by kernel_rfl) (by kernel_rfl) (fun _ _ _ h => h) (Or.inl ⟨by kernel_rfl, ?_⟩) hHeld ?_
      rotate_left
      · intro wz hSw
        try dsimp only at hSw
        first
        | (go_simp; done)
        | (go_simp; with_reducible rfl)
      try simp only [Act.put, List.setIfInBounds_toArray, List.set_cons_zero, List.set_cons_succ]
      refine wpAnyH_take (i := 1) (v := ?_) rfl (by kernel_rfl) (by kernel_rfl) (by kernel_rfl) (fun _ _ _ h => h) (Or.inl ⟨by kernel_rfl, ?_⟩) hHeld ?_
      rotate_left
      · intro wz hSw
        try dsimp only at hSw
        first
        | (go_simp; done)
        | (go_simp; with_reducible rfl)
      try simp only [Act.put, List.setIfInBounds_toArray, List.set_cons_zero, List.set_cons_succ]
      refine wpAnyH_take (i := 2) (v := ?_) rfl (by kernel_rfl) (by kernel_rfl) (by kernel_rfl) (fun _ _ _ h => h) (Or.inl ⟨by kernel_rfl, ?_⟩) hHeld ?_
      rotate_left
      · intro wz hSw
        try dsimp only at hSw
        first
        | (go_simp; done)
        | (go_simp; with_reducible rfl)
      try simp only [Act.put, List.setIfInBounds_toArray, List.set_cons_zero, List.set_cons_succ]
      refine wpAnyH_take (i := 3) (v := ?_) rfl (by kernel_rfl) (by kernel_rfl) (by kernel_rfl) (fun _ _ _ h => h) (Or.inl ⟨by kernel_rfl, ?_⟩) hHeld ?_
      rotate_left
      · intro wz hSw
        try dsimp only at hSw
        first
        | (go_simp; done)
        | (go_simp; with_reducible rfl)
      try simp only [Act.put, List.setIfInBounds_toArray, List.set_cons_zero, List.set_cons_succ]
      refine wpAnyH_take (i := 4) (v := ?_) rfl (by kernel_rfl) (by kernel_rfl) (by kernel_rfl) (fun _ _ _ h => h) (Or.inl ⟨by kernel_rfl, ?_⟩) hHeld ?_
      rotate_left
      · intro wz hSw
        try dsimp only at hSw
        first
        | (go_simp; done)
        | (go_simp; with_reducible rfl)
      try simp only [Act.put, List.setIfInBounds_toArray, List.set_cons_zero, List.set_cons_succ]
      refine wpAnyH_ready (rs := [5]) (by kernel_rfl) (by simp) ?_
      refine AllReadyH.cons rfl (fun K hK => ?_) AllReadyH.nil
      go_simp
      go_at_call 117
      refine (specMatches_v p q t _ hp hq ht4 HMT.out).mono ?_
      rintro e w3 ⟨rfl, hb⟩
      have c0_3 := keep1 hb c0_2
      have c1_3 := keep1 hb c1_2
      have x1_3 := keep1 hb x1_2
      have HA_3 := Lib.hid ((HA_2.out.below hb).call hb.size)
      have HB_3 := Lib.hid ((HB_2.out.below hb).call hb.size)
      have HL_3 : Hid (Below w0.heap.size w0 w3) := Lib.hid (HL_2.out.trans (hb.mono HL_2.out.size))
      clear hb c0_2 c1_2 x1_2 HA_2 HB_2 HL_2
      refine hK.out _ _ ⟨c0_3, c1_3, x1_3⟩ (fun hHeld => ?_)
      clear hK K
      try simp only [Act.put, List.setIfInBounds_toArray, List.set_cons_zero, List.set_cons_succ]
      refine wpAnyH_take (i := 6) (v := ?_) rfl (by kernel_rfl) (by kernel_rfl) (by kernel_rfl) (fun _ _ _ h => h) (Or.inl ⟨by kernel_rfl, ?_⟩) hHeld ?_
      rotate_left
      · intro wz hSw
        try dsimp only at hSw
        first
        | (go_simp; done)
        | (go_simp; with_reducible rfl)
      try simp only [Act.put, List.setIfInBounds_toArray, List.set_cons_zero, List.set_cons_succ]
      cases mt
      · have HP : Hid (okIn (all.take (k + 1)) list p q = true) := Lib.hid HN.out
        refine wpAnyH_take (i := 7) (v := undef) rfl (by kernel_rfl) (by kernel_rfl) (by kernel_rfl) (fun _ _ _ h => h) (Or.inr ⟨by kernel_rfl, rfl⟩) hHeld ?_
        try simp only [Act.put, List.setIfInBounds_toArray, List.set_cons_zero, List.set_cons_succ]
        refine wpAnyH_take (i := 8) (v := undef) rfl (by kernel_rfl) (by kernel_rfl) (by kernel_rfl) (fun _ _ _ h => h) (Or.inr ⟨by kernel_rfl, rfl⟩) hHeld ?_
        try simp only [Act.put, List.setIfInBounds_toArray, List.set_cons_zero, List.set_cons_succ]
        refine wpAnyH_take (i := 9) (v := undef) rfl (by kernel_rfl) (by kernel_rfl) (by kernel_rfl) (fun _ _ _ h => h) (Or.inr ⟨by kernel_rfl, rfl⟩) hHeld ?_
        try simp only [Act.put, List.setIfInBounds_toArray, List.set_cons_zero, List.set_cons_succ]
        refine wpAnyH_take (i := 10) (v := undef) rfl (by kernel_rfl) (by kernel_rfl) (by kernel_rfl) (fun _ _ _ h => h) (Or.inr ⟨by kernel_rfl, rfl⟩) hHeld ?_
        try simp only [Act.put, List.setIfInBounds_toArray, List.set_cons_zero, List.set_cons_succ]
        refine wpAnyH_take (i := 11) (v := undef) rfl (by kernel_rfl) (by kernel_rfl) (by kernel_rfl) (fun _ _ _ h => h) (Or.inr ⟨by kernel_rfl, rfl⟩) hHeld ?_
        try simp only [Act.put, List.setIfInBounds_toArray, List.set_cons_zero, List.set_cons_succ]
        refine wpAnyH_take (i := 12) (v := undef) rfl (by kernel_rfl) (by kernel_rfl) (by kernel_rfl) (fun _ _ _ h => h) (Or.inr ⟨by kernel_rfl, rfl⟩) hHeld ?_
        try simp only [Act.put, List.setIfInBounds_toArray, List.set_cons_zero, List.set_cons_succ]
        refine wpAnyH_take (i := 13) (v := undef) rfl (by kernel_rfl) (by kernel_rfl) (by kernel_rfl) (fun _ _ _ h => h) (Or.inr ⟨by kernel_rfl, rfl⟩) hHeld ?_
        try simp only [Act.put, List.setIfInBounds_toArray, List.set_cons_zero, List.set_cons_succ]
        refine wpAnyH_take (i := 14) (v := ?_) rfl (by kernel_rfl) (by kernel_rfl) (by kernel_rfl) (fun _ _ _ h => h) (Or.inl ⟨by kernel_rfl, ?_⟩) hHeld ?_
        rotate_left
        · intro wz hSw
          try dsimp only at hSw
          first
          | (go_simp; done)
          | (go_simp; with_reducible rfl)
        try simp only [Act.put, List.setIfInBounds_toArray, List.set_cons_zero, List.set_cons_succ]
        refine wpAnyH_done (by kernel_rfl) ?_ _
        try go_simp
        go_wp2
        go_roundw
        case rel => exact ⟨k + 1, by omega, by go_num, HP, HL_3⟩
        case measure => simp [intOf]; omega
      · obtain ⟨vi, hvi⟩ : ∃ v, (list.any fun y => decide (y = (t : Int))) = v := ⟨_, rfl⟩
        have HVI := Lib.hid hvi
        rw [hvi, Bool.not_true, Bool.false_or] at HN HNO
        clear hvi
        refine wpAnyH_take (i := 7) (v := ?_) rfl (by kernel_rfl) (by kernel_rfl) (by kernel_rfl) (fun _ _ _ h => h) (Or.inl ⟨by kernel_rfl, ?_⟩) hHeld ?_
        rotate_left
        · intro wz hSw
          try dsimp only at hSw
          first
          | (go_simp; done)
          | (go_simp; with_reducible rfl)
        try simp only [Act.put, List.setIfInBounds_toArray, List.set_cons_zero, List.set_cons_succ]
        refine wpAnyH_take (i := 8) (v := ?_) rfl (by kernel_rfl) (by kernel_rfl) (by kernel_rfl) (fun _ _ _ h => h) (Or.inl ⟨by kernel_rfl, ?_⟩) hHeld ?_
        rotate_left
        · intro wz hSw
          try dsimp only at hSw
          first
          | (go_simp; done)
          | (go_simp; with_reducible rfl)
        try simp only [Act.put, List.setIfInBounds_toArray, List.set_cons_zero, List.set_cons_succ]
        refine wpAnyH_take (i := 9) (v := ?_) rfl (by kernel_rfl) (by kernel_rfl) (by kernel_rfl) (fun _ _ _ h => h) (Or.inl ⟨by kernel_rfl, ?_⟩) hHeld ?_
        rotate_left
        · intro wz hSw
          try dsimp only at hSw
          first
          | (go_simp; done)
          | (go_simp; with_reducible rfl)
        try simp only [Act.put, List.setIfInBounds_toArray, List.set_cons_zero, List.set_cons_succ]
        refine wpAnyH_take (i := 10) (v := ?_) rfl (by kernel_rfl) (by kernel_rfl) (by kernel_rfl) (fun _ _ _ h => h) (Or.inl ⟨by kernel_rfl, ?_⟩) hHeld ?_
        rotate_left
        · intro wz hSw
          try dsimp only at hSw
          first
          | (go_simp; done)
          | (go_simp; with_reducible rfl)
        try simp only [Act.put, List.setIfInBounds_toArray, List.set_cons_zero, List.set_cons_succ]
        refine wpAnyH_take (i := 11) (v := ?_) rfl (by kernel_rfl) (by kernel_rfl) (by kernel_rfl) (fun _ _ _ h => h) (Or.inl ⟨by kernel_rfl, ?_⟩) hHeld ?_
        rotate_left
        · intro wz hSw
          try dsimp only at hSw
          first
          | (go_simp; done)
          | (go_simp; with_reducible rfl)
        try simp only [Act.put, List.setIfInBounds_toArray, List.set_cons_zero, List.set_cons_succ]
        refine wpAnyH_ready (rs := [12]) (by kernel_rfl) (by simp) ?_
        refine AllReadyH.cons rfl (fun K hK => ?_) AllReadyH.nil
        go_simp
        go_at_call 118
        refine (hasInt_v list t _ _ _ _ HB_3.out HVI.out).mono ?_
        rintro e w4 ⟨rfl, hb⟩
        have HL_4 : Hid (Below w0.heap.size w0 w4) := Lib.hid (HL_3.out.trans (hb.mono HL_3.out.size))
        have c0_4 := keep1 hb c0_3
        have c1_4 := keep1 hb c1_3
        have x1_4 := keep1 hb x1_3
        clear hb c0_3 c1_3 x1_3
        refine hK.out _ _ ⟨c0_4, c1_4, x1_4⟩ (fun hHeld => ?_)
        clear hK K
        try simp only [Act.put, List.setIfInBounds_toArray, List.set_cons_zero, List.set_cons_succ]
        refine wpAnyH_take (i := 13) (v := ?_) rfl (by kernel_rfl) (by kernel_rfl) (by kernel_rfl) (fun _ _ _ h => h) (Or.inl ⟨by kernel_rfl, ?_⟩) hHeld ?_
        rotate_left
        · intro wz hSw
          try dsimp only at hSw
          first
          | (go_simp; done)
          | (go_simp; with_reducible rfl)
        try simp only [Act.put, List.setIfInBounds_toArray, List.set_cons_zero, List.set_cons_succ]
        refine wpAnyH_take (i := 14) (v := ?_) rfl (by kernel_rfl) (by kernel_rfl) (by kernel_rfl) (fun _ _ _ h => h) (Or.inl ⟨by kernel_rfl, ?_⟩) hHeld ?_
        rotate_left
        · intro wz hSw
          try dsimp only at hSw
          first
          | (go_simp; done)
          | (go_simp; with_reducible rfl)
        try simp only [Act.put, List.setIfInBounds_toArray, List.set_cons_zero, List.set_cons_succ]
        refine wpAnyH_done (by kernel_rfl) ?_ _
        try go_simp
        cases vi
        · have HF : Hid (okIn all list p q = false) := Lib.hid (HNO.out rfl)
          go_wp2
          go_ret
          exact ⟨ret_bool HF.out.symm, HB0.out.trans (HL_4.out.mono HB0.out.size)⟩
        · have HP : Hid (okIn (all.take (k + 1)) list p q = true) := Lib.hid HN.out
          go_wp2
          go_roundw
          case rel => exact ⟨k + 1, by omega, by go_num, HP, HL_4⟩
          case measure => simp [intOf]; omega
    · obtain rfl : k = all.length := by omega
      go_wp2
      go_ret
      have := hok.out
      rw [List.take_of_length_le (Nat.le_refl _)] at this
      exact ⟨ret_bool this.symm, HB0.out.trans (hbel.out.mono HB0.out.size)⟩

theorem wpList_app_Ag {W : World} {ops : Array Oper} {rest : List Oper} {o : Oper} {a : Act} {Q : Exit → Act → World → Prop} (hgd : o.guard = none) (s x : Operand) (ho : o.op = .call { callee := .builtin .append, args := #[s, x], argTypes := #[55, 55] })
    (base : Nat) (v : Value) (n : Nat) (xs : List Value) (hs : a.eval s = v) (hown : W.ownsRow base 72 2 v n xs) (x1 x2 : Int)
    (c g : Nat) (hx : a.eval x = .slice (some ⟨g, 0, none⟩) 1 c) (hgw : g = W.heap.size) (hn : n ≤ 2000000) (hbase : base ≤ W.heap.size)
    (h : ∀ v' w', w'.ownsRow base 72 2 v' (n + 1) (xs ++ [.int .i64 x1, .int .i64 x2]) → Below base W w' → W.grownBy w' v.ownBlock → wpList Try.prog ops Q rest (a.put o.dst v') w') :
    wpList Try.prog ops Q (o :: rest) a (W.alloc (.cells #[.int .i64 x1, .int .i64 x2] 72)) := by
  subst hgw
  obtain ⟨i0, hi, hz0, hz1, hz2⟩ := info_parts info_A
  refine wpList_append_own _ hgd s x _ ho base _ i0 _ 2 16 Try.underlying55 hi hz0 hz1 hz2 rfl (by omega) v n xs hs (hown.alloc _) ⟨W.heap.size, 0, none⟩ 1 c [.int .i64 x1, .int .i64 x2] hx rfl
    (World.news_of_block (heap_alloc_new W _)) (by simp [Value.oneCell']) (by unfold maxLen; omega) (by omega) (by simp; omega) ?_
  intro v' w' h2 h3 _
  exact h v' w' h2 (((Below.refl _ _).alloc hbase _).grown h3 (by simp; omega) (fun k hk => (hown.lt k hk).1)) ((World.grownBy_alloc W _ _).trans h3)
def ArmsP (rs : List Ar) (w : World) (e : Ending) (w' : World) : Prop :=
  ∃ A c, e = .returned (.slice A rs.length c) ∧ w'.ownsRow w.heap.size 72 2 (.slice A rs.length c) rs.length (flatA rs) ∧ Below w.heap.size w w'
set_option maxHeartbeats 8000000 in
theorem armsIn_any (m : Nat) (list : List Int) (B : Option Addr) (q d : Nat) (w : World) (hb : SI w w.heap.size B q d list) (hm : m < 4096) (h6 : popc m ≤ 6) :
    Calls Try.prog 69 #[.int .i64 m, .slice B q d] w (ArmsP (mArmsIn m list) w) := by
  have HL := Lib.hid hb
  clear hb
  obtain ⟨w0, hw⟩ : ∃ W : World, W = (w.alloc (.cells #[] 72)) := ⟨_, rfl⟩
  have hb0 : Below w.heap.size w w0 := by rw [hw]; exact (Below.refl _ _).alloc (Nat.le_refl _) _
  have hs0 : w0.heap.size = w.heap.size + 1 := by rw [hw]; simp
  have HX_0 : Hid (w0.ownsRow w.heap.size 72 2 (.slice (some ⟨w.heap.size, 0, none⟩) 0 0) 0 (flatA [])) := Lib.hid (by rw [hw]; exact World.ownsRow_made w #[] 0 (Nat.le_refl _) (by unfold maxLen; omega) rfl)
  have HB_0 := Lib.hid hb0
  have HW0 : Hid ((w.alloc (.cells #[] 72)) = w0) := Lib.hid hw.symm
  clear hw hb0
  go_enter Try.func69, Try.ntmps69
  go_wp2_with fail
  rw [HW0.out]
  refine (partsIn_any m _ hm).mono ?_
  rintro e w1 ⟨Al, cl, rfl, hoa, hb⟩
  have hal64 := parts64 h6
  have HLEN : Hid (∀ k, (armsA m (partsTo m (m + 1)) list ((partsTo m (m + 1)).take k)).length ≤ 4096) := Lib.hid (fun k => armsIn_len h6)
  have HOT : Hid (∀ p ∈ partsTo m (m + 1), (othersOf m p).length ≤ 64) := Lib.hid (others64 h6)
  have HIN : Hid (∀ x ∈ partsTo m (m + 1), ∃ t : Nat, x = (t : Int) ∧ t < 4096) := Lib.hid (fun x hx => by obtain ⟨t, e1, h1, _⟩ := partsG_mem hx; exact ⟨t, e1, by omega⟩)
  have HRG : Hid (∀ x ∈ partsTo m (m + 1), -9223372036854775808 ≤ x ∧ x ≤ 9223372036854775807) := Lib.hid (fun x hx => by obtain ⟨t, e1, h1⟩ := HIN.out x hx; omega)
  have HMM : Hid (mArmsIn m list = armsA m (partsTo m (m + 1)) list (partsTo m (m + 1))) := Lib.hid rfl
  have HA_1 := Lib.hid hoa
  have HX_1 := Lib.hid (own_below HX_0.out hb)
  have HB_1 : Hid (Below w.heap.size w w1) := Lib.hid (HB_0.out.trans (hb.mono HB_0.out.size))
  have hz1 : w0.heap.size ≤ w1.heap.size := hb.size
  clear hoa hb HX_0 HB_0 HW0
  generalize partsTo m (m + 1) = all at *
  go_wp2
  go_loopw [5, 7] (fun v i wr => ∃ k : Nat, k ≤ all.length ∧ i = .int .i64 k ∧ Hid (wr.ownsRow w.heap.size 72 2 v (armsA m all list (all.take k)).length (flatA (armsA m all list (all.take k)))) ∧ Hid (wr.ownsRow w0.heap.size 3 1 (.slice Al all.length cl) all.length (flatI all)) ∧ Hid (Below w.heap.size w wr) ∧ w0.heap.size ≤ wr.heap.size) (fun _ i _ => all.length - (intOf i).toNat)
  case atStart => exact ⟨0, Nat.zero_le _, rfl, HX_1, HA_1, HB_1, hz1⟩
  case round =>
    clear HX_1 HA_1 HB_1 hz1
    obtain ⟨k, hk, rfl, HX_2, HA_2, HB_2, hz2⟩ := hrel
    by_cases hlt : k < all.length
    · have HS_2 := Lib.hid (si_of_own HA_2.out HRG.out)
      obtain ⟨b, o, hA, hbb, x1_2⟩ := HS_2.out.at_ hlt
      subst hA
      have hsl := HS_2.out.max
      have hsc := HS_2.out.cap
      unfold maxLen at hsl
      obtain ⟨t, ht, ht4⟩ := HIN.out _ (List.getElem_mem hlt)
      have HSN := Lib.hid (armsA_snoc (m := m) (all := all) (list := list) hlt)
      have ho64 := HOT.out _ (List.getElem_mem hlt)
      rw [ht] at HSN ho64 x1_2
      have HTA := Lib.hid ht
      clear ht
      have HOE : Hid (othersOf m (t : Int) = partsTo (nl m t) (nl m t + 1)) := Lib.hid (by unfold othersOf; rw [Int.toNat_natCast])
      have hnl := nl_le m t
      have hlk := HLEN.out k
      have hi1 : (k : Int) < (all.length : Int) := by omega
      have hi0 : (0 : Int) ≤ (k : Int) := by omega
      obtain ⟨AX, cX, hvx⟩ := own_form HX_2.out
      subst hvx
      obtain ⟨w2, hwn⟩ : ∃ W : World, W = wr := ⟨_, rfl⟩
      subst hwn
      generalize hrs : armsA m all list (all.take k) = rs at *
      have HRS := Lib.hid hrs
      clear hrs
      go_wp2_with (go_at_call 68; refine (less_any m t _ hm ht4 rfl).mono ?_; rintro e w3 ⟨rfl, rfl⟩)
      refine (partsIn_any (nl m t) _ (by omega)).mono ?_
      rintro e w3 ⟨Ao, co, rfl, hoo, hb⟩
      rw [← HOE.out] at hoo ⊢
      have HIO : Hid (∀ x ∈ othersOf m (t : Int), ∃ u : Nat, x = (u : Int) ∧ u < 4096) := Lib.hid (fun x hx => by rw [HOE.out] at hx; obtain ⟨u, e1, h1, _⟩ := partsG_mem hx; exact ⟨u, e1, by omega⟩)
      generalize othersOf m (t : Int) = os at *
      have HRO : Hid (∀ x ∈ os, -9223372036854775808 ≤ x ∧ x ≤ 9223372036854775807) := Lib.hid (fun x hx => by obtain ⟨t, e1, h1⟩ := HIO.out x hx; omega)
      have HO_3 := Lib.hid hoo
      have HX_3 := Lib.hid (own_below HX_2.out hb)
      have HA_3 := Lib.hid (own_below HA_2.out hb)
      have HB_3 : Hid (Below w.heap.size w w3) := Lib.hid (HB_2.out.trans (hb.mono HB_2.out.size))
      have hz3 : w0.heap.size ≤ w3.heap.size := by have := hb.size; omega
      have hw2 : w0.heap.size ≤ w2.heap.size := hz2
      clear hoo hb HX_2 HA_2 HB_2 HS_2 x1_2 hz2
      go_wp2
      go_loopw [5, 9] (fun v i wr => ∃ j : Nat, j ≤ os.length ∧ i = .int .i64 j ∧ Hid (wr.ownsRow w.heap.size 72 2 v (rs ++ rowA all list (t : Int) (os.take j)).length (flatA (rs ++ rowA all list (t : Int) (os.take j)))) ∧ Hid (wr.ownsRow w0.heap.size 3 1 (.slice (some ⟨b, o, none⟩) all.length cl) all.length (flatI all)) ∧ Hid (wr.ownsRow w2.heap.size 3 1 (.slice Ao os.length co) os.length (flatI os)) ∧ Hid (Below w.heap.size w wr) ∧ w0.heap.size ≤ wr.heap.size) (fun _ i _ => os.length - (intOf i).toNat)
      case atStart => exact ⟨0, Nat.zero_le _, rfl, Lib.hid (by simpa [rowA] using HX_3.out), HA_3, HO_3, HB_3, hz3⟩
      case round =>
        clear HX_3 HA_3 HO_3 HB_3 hz3
        obtain ⟨j, hj, rfl, HX_4, HA_4, HO_4, HB_4, hz4⟩ := hrel
        by_cases hlj : j < os.length
        · obtain ⟨AY, cY, hvy⟩ := own_form HX_4.out
          subst hvy
          have HS_4 := Lib.hid (si_of_own HA_4.out HRG.out)
          have HT_4 := Lib.hid (si_of_own HO_4.out HRO.out)
          obtain ⟨b1, o1, hA, hbb1, x1_4⟩ := HS_4.out.at_ hlt
          injection hA with hA
          injection hA with e1 e2
          subst e1 e2
          rw [HTA.out] at x1_4
          obtain ⟨b2, o2, hA, hbb2, x2_4⟩ := HT_4.out.at_ hlj
          subst hA
          obtain ⟨u, hu, hu4⟩ := HIO.out _ (List.getElem_mem hlj)
          have HRW : Hid (rs ++ rowA all list (t : Int) (os.take (j + 1)) = rs ++ rowA all list (t : Int) (os.take j) ++ if okIn all list t u then [⟨t, u⟩] else []) := Lib.hid (by have h := rowA_snoc (all := all) (list := list) (p := (t : Int)) hlj; rw [hu, Int.toNat_natCast, Int.toNat_natCast] at h; rw [h, List.append_assoc])
          rw [hu] at x2_4
          have HUA := Lib.hid hu
          clear hu
          have hrl := rowA_len all list (os.take j) (t : Int)
          have htl : (os.take j).length ≤ j := by rw [List.length_take]; omega
          have hrn : (rs ++ rowA all list (t : Int) (os.take j)).length ≤ 2000000 := by rw [List.length_append]; omega
          clear hrl htl
          generalize hrt : rs ++ rowA all list (t : Int) (os.take j) = rt at *
          have HRT := Lib.hid hrt
          clear hrt
          have hj1 : (j : Int) < (os.length : Int) := by omega
          have hj0 : (0 : Int) ≤ (j : Int) := by omega
          have hsl2 := HT_4.out.max
          have hsc2 := HT_4.out.cap
          unfold maxLen at hsl2
          obtain ⟨w4, hwn⟩ : ∃ W : World, W = wr := ⟨_, rfl⟩
          subst hwn
          clear HS_4 HT_4
          go_upto_region 10 with fail
          refine wp_region_held_drew (S := fun w' => w'.cell? ⟨b, o + k, none⟩ = some (.int .i64 t) ∧ w'.cell? ⟨b2, o2 + j, none⟩ = some (.int .i64 u)) (by kernel_rfl) ⟨x1_4, x2_4⟩ (fun hHeld => ?_)
          generalize hwd : w4.drew = w5 at hHeld ⊢
          have hb : Below w4.heap.size w4 w5 := by rw [← hwd]; exact (Below.refl _ _).drew
          have x1_5 := keep1 hb x1_4
          have x2_5 := keep1 hb x2_4
          have HX_5 := Lib.hid (own_below HX_4.out hb)
          have HA_5 := Lib.hid (own_below HA_4.out hb)
          have HO_5 := Lib.hid (own_below HO_4.out hb)
          have HB_5 : Hid (Below w.heap.size w w5) := Lib.hid (HB_4.out.trans (hb.mono HB_4.out.size))
          have hz5 : w0.heap.size ≤ w5.heap.size := by have := hb.size; omega
          clear x1_4 x2_4 HX_4 HA_4 HO_4 HB_4 hz4
          clear hb hwd
          refine wpAnyH_take (i := 0) (v := ?_) rfl (by kernel_rfl) (by kernel_rfl) (by kernel_rfl) (fun _ _ _ h => h) (Or.inl ⟨by kernel_rfl, ?_⟩) hHeld ?_
          rotate_left
          · intro wz hSw
            try dsimp only at hSw
            first
            | (go_simp; done)
            | (go_simp; with_reducible rfl)
          try simp only [Act.put, List.setIfInBounds_toArray, List.set_cons_zero, List.set_cons_succ]
          refine wpAnyH_take (i := 1) (v := ?_) rfl (by kernel_rfl) (by kernel_rfl) (by kernel_rfl) (fun _ _ _ h => h) (Or.inl ⟨by kernel_rfl, ?_⟩) hHeld ?_
          rotate_left
          · intro wz hSw
            try dsimp only at hSw
            first
            | (go_simp; done)
            | (go_simp; with_reducible rfl)
          try simp only [Act.put, List.setIfInBounds_toArray, List.set_cons_zero, List.set_cons_succ]
          refine wpAnyH_take (i := 2) (v := ?_) rfl (by kernel_rfl) (by kernel_rfl) (by kernel_rfl) (fun _ _ _ h => h) (Or.inl ⟨by kernel_rfl, ?_⟩) hHeld ?_
          rotate_left
          · intro wz hSw
            try dsimp only at hSw
            first
            | (go_simp; done)
            | (go_simp; with_reducible rfl)
          try simp only [Act.put, List.setIfInBounds_toArray, List.set_cons_zero, List.set_cons_succ]
          refine wpAnyH_take (i := 3) (v := ?_) rfl (by kernel_rfl) (by kernel_rfl) (by kernel_rfl) (fun _ _ _ h => h) (Or.inl ⟨by kernel_rfl, ?_⟩) hHeld ?_
          rotate_left
          · intro wz hSw
            try dsimp only at hSw
            first
            | (go_simp; done)
            | (go_simp; with_reducible rfl)
          try simp only [Act.put, List.setIfInBounds_toArray, List.set_cons_zero, List.set_cons_succ]
          refine wpAnyH_take (i := 4) (v := ?_) rfl (by kernel_rfl) (by kernel_rfl) (by kernel_rfl) (fun _ _ _ h => h) (Or.inl ⟨by kernel_rfl, ?_⟩) hHeld ?_
          rotate_left
          · intro wz hSw
            try dsimp only at hSw
            first
            | (go_simp; done)
            | (go_simp; with_reducible rfl)
          try simp only [Act.put, List.setIfInBounds_toArray, List.set_cons_zero, List.set_cons_succ]
          refine wpAnyH_take (i := 5) (v := ?_) rfl (by kernel_rfl) (by kernel_rfl) (by kernel_rfl) (fun _ _ _ h => h) (Or.inl ⟨by kernel_rfl, ?_⟩) hHeld ?_
          rotate_left
          · intro wz hSw
            try dsimp only at hSw
            first
            | (go_simp; done)
            | (go_simp; with_reducible rfl)
          try simp only [Act.put, List.setIfInBounds_toArray, List.set_cons_zero, List.set_cons_succ]
          refine wpAnyH_take (i := 6) (v := ?_) rfl (by kernel_rfl) (by kernel_rfl) (by kernel_rfl) (fun _ _ _ h => h) (Or.inl ⟨by kernel_rfl, ?_⟩) hHeld ?_
          rotate_left
          · intro wz hSw
            try dsimp only at hSw
            first
            | (go_simp; done)
            | (go_simp; with_reducible rfl)
          try simp only [Act.put, List.setIfInBounds_toArray, List.set_cons_zero, List.set_cons_succ]
          refine wpAnyH_take (i := 7) (v := ?_) rfl (by kernel_rfl) (by kernel_rfl) (by kernel_rfl) (fun _ _ _ h => h) (Or.inl ⟨by kernel_rfl, ?_⟩) hHeld ?_
          rotate_left
          · intro wz hSw
            try dsimp only at hSw
            first
            | (go_simp; done)
            | (go_simp; with_reducible rfl)
          try simp only [Act.put, List.setIfInBounds_toArray, List.set_cons_zero, List.set_cons_succ]
          refine wpAnyH_take (i := 8) (v := ?_) rfl (by kernel_rfl) (by kernel_rfl) (by kernel_rfl) (fun _ _ _ h => h) (Or.inl ⟨by kernel_rfl, ?_⟩) hHeld ?_
          rotate_left
          · intro wz hSw
            try dsimp only at hSw
            first
            | (go_simp; done)
            | (go_simp; with_reducible rfl)
          try simp only [Act.put, List.setIfInBounds_toArray, List.set_cons_zero, List.set_cons_succ]
          refine wpAnyH_ready (rs := [9]) (by kernel_rfl) (by simp) ?_
          refine AllReadyH.cons rfl (fun K hK => ?_) AllReadyH.nil
          go_simp
          refine hK.out _ _ ⟨keep1 ((Below.refl _ _).alloc (Nat.le_refl _) _) x1_5, keep1 ((Below.refl _ _).alloc (Nat.le_refl _) _) x2_5⟩ (fun hHeld => ?_)
          clear hK K
          try simp only [Act.put, List.setIfInBounds_toArray, List.set_cons_zero, List.set_cons_succ]
          obtain ⟨G, hG⟩ : ∃ g, w5.heap.size = g := ⟨_, rfl⟩
          generalize hw9 : (World.alloc _ _) = w6 at hHeld ⊢
          have hb : Below w5.heap.size w5 w6 := by rw [← hw9]; exact (Below.refl _ _).alloc (Nat.le_refl _) _
          have bx0_6 : w6.cell? ⟨w5.heap.size, 0, none⟩ = some (.int .i64 0) := by rw [← hw9]; simp [go_sem]
          have bf0_6 : w6.frozen? ⟨w5.heap.size, 0, none⟩ = false := by rw [← hw9]; simp [go_sem]
          have bx1_6 : w6.cell? ⟨w5.heap.size, 1, none⟩ = some (.int .i64 0) := by rw [← hw9]; simp [go_sem]
          have bf1_6 : w6.frozen? ⟨w5.heap.size, 1, none⟩ = false := by rw [← hw9]; simp [go_sem]
          have hs6 : w6.heap.size = w5.heap.size + 1 := by rw [← hw9]; simp
          have x1_6 := keep1 hb x1_5
          have x2_6 := keep1 hb x2_5
          have HX_6 := Lib.hid (own_below HX_5.out hb)
          have HA_6 := Lib.hid (own_below HA_5.out hb)
          have HO_6 := Lib.hid (own_below HO_5.out hb)
          have HB_6 : Hid (Below w.heap.size w w6) := Lib.hid (HB_5.out.trans (hb.mono HB_5.out.size))
          have HGX : Hid (∀ g, (Value.slice AY rt.length cY).ownBlock = some g → g < w5.heap.size) := Lib.hid (fun g hg => (HX_5.out.lt g hg).2)
          have HGA : Hid (∀ g, (Value.slice (some ⟨b, o, none⟩) all.length cl).ownBlock = some g → g < w5.heap.size) := Lib.hid (fun g hg => (HA_5.out.lt g hg).2)
          have HGO : Hid (∀ g, (Value.slice (some ⟨b2, o2, none⟩) os.length co).ownBlock = some g → g < w5.heap.size) := Lib.hid (fun g hg => (HO_5.out.lt g hg).2)
          have hwz : w.heap.size ≤ w5.heap.size := HB_5.out.size
          have hbw : b < w5.heap.size := World.block_lt_of_cell? _ _ x1_5
          have hb2w : b2 < w5.heap.size := World.block_lt_of_cell? _ _ x2_5
          clear hb hw9 x1_5 x2_5 HX_5 HA_5 HO_5 HB_5
          rw [hG] at bx0_6 bf0_6 bx1_6 bf1_6 hs6 HGX HGA HGO hwz hbw hb2w hz5
          try rw [hG]
          try simp only [hG]
          refine wpAnyH_ready (rs := [10]) (by kernel_rfl) (by simp) ?_
          refine AllReadyH.cons rfl (fun K hK => ?_) AllReadyH.nil
          try rw [hG]
          go_simp
          obtain ⟨w7, hw⟩ : ∃ W : World, W = ((w6.setCell ⟨G, 0, none⟩ (.int .i64 t)).setCell ⟨G, 1, none⟩ (.int .i64 u)) := ⟨_, rfl⟩
          have ob : ∀ {p : Addr}, p.block ≠ G → w7.cell? p = w6.cell? p := fun {p} hp => by rw [hw]; exact (World.cell?_setCell_other _ _ _ _ (fun e => by subst e; exact hp rfl)).trans (World.cell?_setCell_other _ _ _ _ (fun e => by subst e; exact hp rfl))
          have x1_7 : w7.cell? ⟨b, o + k, none⟩ = some (.int .i64 t) := (ob (by show b ≠ G; omega)).trans x1_6
          have x2_7 : w7.cell? ⟨b2, o2 + j, none⟩ = some (.int .i64 u) := (ob (by show b2 ≠ G; omega)).trans x2_6
          have e0_7 : w7.cell? ⟨G, 0, none⟩ = some (.int .i64 t) := by rw [hw]; exact (World.cell?_setCell_other _ _ _ _ (by intro e; injection e with _ e2; cases e2)).trans (World.cell?_setCell_same' _ _ _ (by rw [bx0_6]; rfl))
          have e1_7 : w7.cell? ⟨G, 1, none⟩ = some (.int .i64 u) := by rw [hw]; exact World.cell?_setCell_same' _ _ _ (by rw [World.cell?_setCell_other _ _ _ _ (by intro e; injection e with _ e2; cases e2), bx1_6]; rfl)
          have HX_7 := Lib.hid (show w7.ownsRow _ _ _ _ _ _ by rw [hw]; exact own_setCell (own_setCell HX_6.out (fun e => by have := HGX.out _ e; simp only at this; omega) _) (fun e => by have := HGX.out _ e; simp only at this; omega) _)
          have HA_7 := Lib.hid (show w7.ownsRow _ _ _ _ _ _ by rw [hw]; exact own_setCell (own_setCell HA_6.out (fun e => by have := HGA.out _ e; simp only at this; omega) _) (fun e => by have := HGA.out _ e; simp only at this; omega) _)
          have HO_7 := Lib.hid (show w7.ownsRow _ _ _ _ _ _ by rw [hw]; exact own_setCell (own_setCell HO_6.out (fun e => by have := HGO.out _ e; simp only at this; omega) _) (fun e => by have := HGO.out _ e; simp only at this; omega) _)
          have HB_7 : Hid (Below w.heap.size w w7) := Lib.hid (by rw [hw]; exact (HB_6.out.setCell (by show w.heap.size ≤ G; omega) _).setCell (by show w.heap.size ≤ G; omega) _)
          have hs7 : w7.heap.size = G + 1 := by rw [hw]; simpa using hs6
          have HW7 : Hid (((w6.setCell ⟨G, 0, none⟩ (.int .i64 t)).setCell ⟨G, 1, none⟩ (.int .i64 u)) = w7) := Lib.hid hw.symm
          clear hw ob x1_6 x2_6 bx0_6 bf0_6 bx1_6 bf1_6 HX_6 HA_6 HO_6 HB_6 HGX HGA HGO
          try rw [HW7.out]
          refine hK.out _ _ ⟨x1_7, x2_7⟩ (fun hHeld => ?_)
          clear hK K
          try simp only [Act.put, List.setIfInBounds_toArray, List.set_cons_zero, List.set_cons_succ]
          refine wpAnyH_done (by kernel_rfl) ?_ _
          try go_simp
          obtain ⟨ok, hok⟩ : ∃ v, okIn all list t u = v := ⟨_, rfl⟩
          have HOK := Lib.hid hok
          rw [hok] at HRW
          clear hok
          have HS_7 := Lib.hid (si_of_own HA_7.out HRG.out)
          go_wp2_with fail
          refine (allIn_v all list t u _ _ _ _ _ _ _ HS_7.out ((HL.out.below HB_7.out).call HB_7.out.size) HIN.out ht4 hu4 HOK.out).mono ?_
          rintro e w8 ⟨rfl, hb⟩
          have e0_8 := keep1 hb e0_7
          have e1_8 := keep1 hb e1_7
          have HX_8 := Lib.hid (own_below HX_7.out hb)
          have HA_8 := Lib.hid (own_below HA_7.out hb)
          have HO_8 := Lib.hid (own_below HO_7.out hb)
          have HB_8 : Hid (Below w.heap.size w w8) := Lib.hid (HB_7.out.trans (hb.mono HB_7.out.size))
          have hz8 : w0.heap.size ≤ w8.heap.size := by have := hb.size; omega
          clear hb e0_7 e1_7 x1_7 x2_7 HX_7 HA_7 HO_7 HB_7 HS_7
          cases ok
          · have HE : Hid (rs ++ rowA all list (t : Int) (os.take (j + 1)) = rt) := Lib.hid (by rw [HRW.out]; simp)
            go_wp2
            go_roundw
            case rel => exact ⟨j + 1, by omega, by go_num, Lib.hid (by rw [HE.out]; exact HX_8.out), HA_8, HO_8, HB_8, hz8⟩
            case measure => simp [intOf]; omega
          · have HE : Hid (rs ++ rowA all list (t : Int) (os.take (j + 1)) = rt ++ [⟨t, u⟩]) := Lib.hid (by rw [HRW.out]; simp)
            go_wp2_with (at_builtin; refine wpList_app_Ag rfl _ _ rfl _ _ _ _ rfl HX_8.out _ _ _ _ rfl (by first | rfl | simp) hrn HB_8.out.size ?_; intro v' w9 ho hb hg; have HX_9 := Lib.hid ho; have HB_9 : Hid (Below w.heap.size w w9) := Lib.hid (HB_8.out.trans hb); have HA_9 := Lib.hid (HA_8.out.kept hg (own_ne_type HA_8.out HX_8.out (by decide))); have HO_9 := Lib.hid (HO_8.out.kept hg (own_ne_type HO_8.out HX_8.out (by decide))); have hz9 : w0.heap.size ≤ w9.heap.size := (by have := hg.size; omega); clear ho hb hg)
            go_roundw
            case rel => exact ⟨j + 1, by omega, by go_num, Lib.hid (by rw [HE.out]; have h := HX_9.out; rw [List.length_append (bs := [(⟨t, u⟩ : Ar)])]; simpa [flatA, encA] using h), HA_9, HO_9, HB_9, hz9⟩
            case measure => simp [intOf]; omega
        · obtain rfl : j = os.length := by omega
          have HE : Hid (armsA m all list (all.take (k + 1)) = rs ++ rowA all list (t : Int) (os.take os.length)) := Lib.hid (by rw [HSN.out, List.take_of_length_le (Nat.le_refl _)])
          have hj9 : ¬ (os.length : Int) < (os.length : Int) := by omega
          go_wp2
          go_roundw
          case rel => exact ⟨k + 1, by omega, by go_num, Lib.hid (by rw [HE.out]; exact HX_4.out), HA_4, HB_4, hz4⟩
          case measure => simp [intOf]; omega
    · obtain rfl : k = all.length := by omega
      obtain ⟨AX, cX, hvx⟩ := own_form HX_2.out
      subst hvx
      have HE : Hid (all.take all.length = all) := Lib.hid (List.take_of_length_le (Nat.le_refl _))
      rw [HE.out] at HX_2 ⊢
      have hk9 : ¬ (all.length : Int) < (all.length : Int) := by omega
      go_wp2
      go_ret
      rw [HMM.out]
      exact ⟨AX, cX, rfl, HX_2.out, HB_2.out⟩
end Go.Proofs.Ytpmanbmhbfnefaa
