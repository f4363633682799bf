/-
For every code the law that the first missed value is a value that no arm has, and that with an arm for it just greater ones are missed, returns true.
Conditions: none.
-/
import Derived.Test.YtkholjcmaebaaaaGenAd
import Derived.Test.YtkholjcmaebaaaaOpenC
import Derived.Test.YtkholjcmaebaaaaLArs
import Derived.Test.YtkholjcmaebaaaaArmV
import Derived.Test.YtkholjcmaebaaaaArmW
import Derived.Test.YtkholjcmaebaaaaArmY
import Derived.Test.YtkholjcmaebaaaaBaseE
import Derived.Test.YtkholjcmaebaaaaAlgI
import Derived.Test.YtkholjcmaebaaaaEdit2
import Derived.Test.YtkholjcmaebaaaaArmJ
namespace Go.Proofs.Ytkholjcmaebaaaa.fnFirstMissed
open Go.ChangeShapes Go.WideShapes Go.ChangeAt Go.RowKit
open Go.ChangeMaps (open_string shut_string)
set_option linter.unusedVariables false
set_option linter.unusedSimpArgs false
set_option maxRecDepth 100000

theorem src_one {W : World} {g : Nat} {x y : Value} (h0 : W.cell? ⟨g, 0, none⟩ = some x) (h1 : W.cell? ⟨g, 1, none⟩ = some y) : Src W 2 (some ⟨g, 0, none⟩) 1 [x, y] := by
  refine ⟨rfl, .inr ⟨_, rfl, fun j u hj => ?_⟩⟩
  match j, hj with
  | 0, hj => simp at hj; subst hj; simpa [Addr.add] using h0
  | 1, hj => simp at hj; subst hj; simpa [Addr.add] using h1
  | j + 2, hj => simp at hj
theorem slA {w : World} {B n c : Nat} {A : Option Addr} {rs : List Ar} (h : SA w B A n c rs) : SL encA 2 w B A n c rs := ⟨h.rd, h.len, h.cap, h.max⟩
theorem one_A (xs : List Ar) : ∀ u ∈ xs.flatMap encA, u.oneCell' = true := by
  intro u hu
  obtain ⟨s, _, h⟩ := List.mem_flatMap.1 hu
  unfold encA at h
  rcases List.mem_cons.1 h with h | h
  · rw [h]; rfl
  · rw [List.mem_singleton.1 h]; rfl

theorem nilA (w : World) : SA w w.heap.size none 0 0 [] := ⟨.inl rfl, rfl, Nat.le_refl _, by unfold maxLen; omega, by intro d hd; cases hd⟩

set_option maxHeartbeats 16000000 in
theorem walk (A : Option Addr) (n c : Nat) (zs : List Int) (w : World) (h : SB w w.heap.size A n c zs) :
    Calls Try.prog 5 #[.slice A n c] w fun e w' => e = .returned (.bool true) ∧ Below w.heap.size w w' := by
  have hm := h.max
  have hcap := h.cap
  unfold maxLen at hm
  have HS0 := Lib.hid h
  clear h
  by_cases hbig : 1048576 < (n : Int)
  · go_enter Try.func5, Try.ntmps5
    go_wp2
    go_ret
    exact ⟨rfl, Below.refl _ _⟩
  go_enter Try.func5, Try.ntmps5
  go_wp2_with fail
  refine (drawFirstMissed_s A n c zs _ HS0.out).mono ?_
  rintro e w1 ⟨Aa, ca, dsa, ba, As, cs, rs, rfl, hna, hsma, hbda, hrl, hrs, hsa, hss, hb⟩
  have HB_1 := Lib.hid hb
  have Sa_1 := Lib.hid hsa
  have HSMa := Lib.hid hsma
  have HOKa : Hid (∀ d ∈ dsa, d.ok) := Lib.hid (fun d hd => small_ok (hsma d hd))
  have HBDa := Lib.hid hbda
  have Ss_1 := Lib.hid hss
  clear hb hsa hsma hbda hss
  obtain ⟨w2, hw⟩ : ∃ W : World, W = (w1.alloc (.cells #[.slice Aa dsa.length ca, .int .i64 ba] 25)) := ⟨_, rfl⟩
  have hb : Below w1.heap.size w1 w2 := by rw [hw]; exact ((Below.refl _ _).alloc (by first | exact Nat.le_refl _ | (simp; done) | (simp; omega)) _)
  have Sa_2 := Lib.hid ((Sa_1.out.below hb).call hb.size)
  have Ss_2 := Lib.hid ((Ss_1.out.below hb).call hb.size)
  have HB_2 : Hid (Below w.heap.size w w2) := Lib.hid (HB_1.out.trans (hb.mono HB_1.out.size))
  have ba_2 : w2.cell? ⟨w1.heap.size, 0, none⟩ = some (.slice Aa dsa.length ca) := by rw [hw]; simp [go_sem]
  have va_2 : w2.cell? ⟨w1.heap.size, 1, none⟩ = some (.int .i64 ba) := by rw [hw]; simp [go_sem]
  have lf_ba : (w1.alloc (.cells #[.slice Aa dsa.length ca, .int .i64 ba] 25)).cell? ⟨w1.heap.size, 0, none⟩ = some (.slice Aa dsa.length ca) := by rw [← hw]; exact ba_2
  have lf_va : (w1.alloc (.cells #[.slice Aa dsa.length ca, .int .i64 ba] 25)).cell? ⟨w1.heap.size, 1, none⟩ = some (.int .i64 ba) := by rw [← hw]; exact va_2
  have HW2 : Hid ((w1.alloc (.cells #[.slice Aa dsa.length ca, .int .i64 ba] 25)) = w2) := Lib.hid hw.symm
  clear hb hw Sa_1 Ss_1 HB_1
  obtain ⟨r, hr⟩ : ∃ r, mMissed dsa ba rs = r := ⟨_, rfl⟩
  have HR := Lib.hid hr
  have OKR : Hid (∀ a ∈ rs, a.ok) := Lib.hid (fun a ha => Ar.small_ok (hrs a ha))
  clear hr hrs
  go_wp2_with fail
  rw [HW2.out]
  clear lf_ba lf_va
  refine (implMissed_v dsa ba rs _ _ _ _ Sa_2.out _ _ _ Ss_2.out (by omega) HR.out).mono ?_
  rintro e w3 ⟨rfl, hb⟩
  have ba_3 := keep1 hb ba_2
  have va_3 := keep1 hb va_2
  have Sa_3 := Lib.hid ((Sa_2.out.below hb).call hb.size)
  have Ss_3 := Lib.hid ((Ss_2.out.below hb).call hb.size)
  have HB_3 : Hid (Below w.heap.size w w3) := Lib.hid (HB_2.out.trans (hb.mono HB_2.out.size))
  clear hb  ba_2 va_2 Sa_2 Ss_2 HB_2
  go_wp2_with fail
  refine (specMissed_v dsa ba rs _ _ _ _ Sa_3.out _ _ _ Ss_3.out HR.out).mono ?_
  rintro e w4 ⟨rfl, hb⟩
  have ba_4 := keep1 hb ba_3
  have va_4 := keep1 hb va_3
  have Sa_4 := Lib.hid ((Sa_3.out.below hb).call hb.size)
  have Ss_4 := Lib.hid ((Ss_3.out.below hb).call hb.size)
  have HB_4 : Hid (Below w.heap.size w w4) := Lib.hid (HB_3.out.trans (hb.mono HB_3.out.size))
  clear hb  ba_3 va_3 Sa_3 Ss_3 HB_3
  by_cases h2 : r < 0
  · skip
    go_wp2_with fail
    refine (specMissed_v dsa ba rs _ _ _ _ Sa_4.out _ _ _ Ss_4.out HR.out).mono ?_
    rintro e w5 ⟨rfl, hb⟩
    have ba_5 := keep1 hb ba_4
    have va_5 := keep1 hb va_4
    have Sa_5 := Lib.hid ((Sa_4.out.below hb).call hb.size)
    have Ss_5 := Lib.hid ((Ss_4.out.below hb).call hb.size)
    have HB_5 : Hid (Below w.heap.size w w5) := Lib.hid (HB_4.out.trans (hb.mono HB_4.out.size))
    clear hb  ba_4 va_4 Sa_4 Ss_4 HB_4
    go_wp2
    go_ret
    exact ⟨by first | rfl | kernel_rfl | (go_simp; done), HB_5.out⟩
  by_cases h10 : (10 : Int) ≤ (rs.length : Int)
  · skip
    go_wp2_with fail
    refine (specMissed_v dsa ba rs _ _ _ _ Sa_4.out _ _ _ Ss_4.out HR.out).mono ?_
    rintro e w5 ⟨rfl, hb⟩
    have ba_5 := keep1 hb ba_4
    have va_5 := keep1 hb va_4
    have Sa_5 := Lib.hid ((Sa_4.out.below hb).call hb.size)
    have Ss_5 := Lib.hid ((Ss_4.out.below hb).call hb.size)
    have HB_5 : Hid (Below w.heap.size w w5) := Lib.hid (HB_4.out.trans (hb.mono HB_4.out.size))
    clear hb  ba_4 va_4 Sa_4 Ss_4 HB_4
    go_wp2
    go_ret
    exact ⟨by first | rfl | kernel_rfl | (go_simp; done), HB_5.out⟩
  obtain ⟨x, m, q, y, hl⟩ := mis_law (by rw [HR.out]; omega) (by omega : rs.length < 10) (b := ba)
  rw [HR.out] at hl
  obtain rfl := hl.x_
  have HL := Lib.hid hl
  have OKL : Hid (∀ a ∈ rs ++ [(⟨(x : Int), (q : Int)⟩ : Ar)], a.ok) := Lib.hid (by
    intro a ha
    rcases List.mem_append.1 ha with h | h
    · exact OKR.out a h
    · rw [List.mem_singleton.1 h]; exact hl.ok)
  have hyy := hl.yy
  clear hl
  go_upto_region 7 with fail
  go_cut [6] (fun s wx => ∃ X : Nat, s = .pointer (some ⟨X, 0, none⟩) ∧ w4.heap.size ≤ X ∧ Hid (wx.cell? ⟨X, 0, none⟩ = some (.int .i64 x)) ∧ Hid (wx.cell? ⟨X, 1, none⟩ = some (.int .i64 q)) ∧ Hid (Below w4.heap.size w4 wx))
  case first =>
    refine wp_region_held_drew (S := (fun w' => w'.cell? ⟨w1.heap.size, 0, none⟩ = some (.slice Aa dsa.length ca) ∧ w'.cell? ⟨w1.heap.size, 1, none⟩ = some (.int .i64 ba))) (by kernel_rfl) ⟨ba_4, va_4⟩ (fun hHeld => ?_)
    generalize hwd : w4.drew = w5 at hHeld ⊢
    have hb : Below w4.heap.size w4 w5 := by rw [← hwd]; exact (Below.refl _ _).drew
    have ba_5 := keep1 hb ba_4
    have va_5 := keep1 hb va_4
    have Sa_5 := Lib.hid ((Sa_4.out.below hb).call hb.size)
    have Ss_5 := Lib.hid ((Ss_4.out.below hb).call hb.size)
    have HB_5 : Hid (Below w.heap.size w w5) := Lib.hid (HB_4.out.trans (hb.mono HB_4.out.size))
    have HD5 := Lib.hid hb
    clear hb hwd ba_4 va_4 Sa_4 Ss_4 HB_4
    have hb_w5 : Below w5.heap.size w5 w5 := Below.refl _ _
    refine wpAnyH_take (i := 0) (v := ?_) rfl (by kernel_rfl) (by kernel_rfl) (by kernel_rfl) (fun _ _ _ h => h) (Or.inl ⟨by kernel_rfl, ?_⟩) hHeld ?_
    rotate_left
    · intro wz hSw
      try dsimp only at hSw
      first
      | (go_simp; done)
      | (go_simp; with_reducible rfl)
    try simp only [Act.put, List.setIfInBounds_toArray, List.set_cons_zero, List.set_cons_succ]
    refine wpAnyH_take (i := 1) (v := ?_) rfl (by kernel_rfl) (by kernel_rfl) (by kernel_rfl) (fun _ _ _ h => h) (Or.inl ⟨by kernel_rfl, ?_⟩) hHeld ?_
    rotate_left
    · intro wz hSw
      try dsimp only at hSw
      first
      | (go_simp; done)
      | (go_simp; with_reducible rfl)
    try simp only [Act.put, List.setIfInBounds_toArray, List.set_cons_zero, List.set_cons_succ]
    refine wpAnyH_take (i := 2) (v := ?_) rfl (by kernel_rfl) (by kernel_rfl) (by kernel_rfl) (fun _ _ _ h => h) (Or.inl ⟨by kernel_rfl, ?_⟩) hHeld ?_
    rotate_left
    · intro wz hSw
      try dsimp only at hSw
      first
      | (go_simp; done)
      | (go_simp; with_reducible rfl)
    try simp only [Act.put, List.setIfInBounds_toArray, List.set_cons_zero, List.set_cons_succ]
    refine wpAnyH_take (i := 4) (v := ?_) rfl (by kernel_rfl) (by kernel_rfl) (by kernel_rfl) (fun _ _ _ h => h) (Or.inl ⟨by kernel_rfl, ?_⟩) hHeld ?_
    rotate_left
    · intro wz hSw
      try dsimp only at hSw
      first
      | (go_simp; done)
      | (go_simp; with_reducible rfl)
    try simp only [Act.put, List.setIfInBounds_toArray, List.set_cons_zero, List.set_cons_succ]
    refine wpAnyH_ready (rs := [3, 7]) (by kernel_rfl) (by simp) ?_
    refine AllReadyH.cons rfl (fun K hK => ?_) (AllReadyH.cons rfl (fun K hK => ?_) AllReadyH.nil)
    · skip
      go_simp
      refine (implMaskOf_v dsa ba _ _ _ _ ((Sa_5.out.below hb_w5).call hb_w5.size) (by omega) HL.out.m_).mono ?_
      rintro e w5c ⟨rfl, hb⟩
      have hb_w5c : Below w5.heap.size w5 w5c := hb_w5.trans (hb.mono hb_w5.size)
      go_simp
      refine hK.out _ _ ⟨keep1 hb_w5c ba_5, keep1 hb_w5c va_5⟩ (fun hHeld => ?_)
      clear hb hK K
      try simp only [Act.put, List.setIfInBounds_toArray, List.set_cons_zero, List.set_cons_succ]
      refine wpAnyH_ready (rs := [5, 7]) (by kernel_rfl) (by simp) ?_
      refine AllReadyH.cons rfl (fun K hK => ?_) (AllReadyH.cons rfl (fun K hK => ?_) AllReadyH.nil)
      · skip
        go_simp
        refine (implLess_v dsa ba (m : Int) (x : Int) _ _ _ _ ((Sa_5.out.below hb_w5c).call hb_w5c.size) (by omega) HL.out.q_).mono ?_
        rintro e w5cc ⟨rfl, hb⟩
        have hb_w5cc : Below w5.heap.size w5 w5cc := hb_w5c.trans (hb.mono hb_w5c.size)
        go_simp
        refine hK.out _ _ ⟨keep1 hb_w5cc ba_5, keep1 hb_w5cc va_5⟩ (fun hHeld => ?_)
        clear hb hK K
        try simp only [Act.put, List.setIfInBounds_toArray, List.set_cons_zero, List.set_cons_succ]
        refine wpAnyH_take (i := 6) (v := ?_) rfl (by kernel_rfl) (by kernel_rfl) (by kernel_rfl) (fun _ _ _ h => h) (Or.inl ⟨by kernel_rfl, ?_⟩) hHeld ?_
        rotate_left
        · intro wz hSw
          try dsimp only at hSw
          first
          | (go_simp; done)
          | (go_simp; with_reducible rfl)
        try simp only [Act.put, List.setIfInBounds_toArray, List.set_cons_zero, List.set_cons_succ]
        refine wpAnyH_ready (rs := [7]) (by kernel_rfl) (by simp) ?_
        refine AllReadyH.cons rfl (fun K hK => ?_) AllReadyH.nil
        go_simp
        refine hK.out _ _ ⟨keep1 (hb_w5cc.alloc hb_w5cc.size _) ba_5, keep1 (hb_w5cc.alloc hb_w5cc.size _) va_5⟩ (fun hHeld => ?_)
        clear hK K
        try simp only [Act.put, List.setIfInBounds_toArray, List.set_cons_zero, List.set_cons_succ]
        generalize hw9 : (World.alloc _ _) = w5cca at hHeld ⊢
        have hb_w5cca : Below w5.heap.size w5 w5cca := by rw [← hw9]; exact hb_w5cc.alloc hb_w5cc.size _
        have bx0_w5cca : w5cca.cell? ⟨w5cc.heap.size, 0, none⟩ = some (.int .i64 0) := by rw [← hw9]; simp [go_sem]
        have bf0_w5cca : w5cca.frozen? ⟨w5cc.heap.size, 0, none⟩ = false := by rw [← hw9]; simp [go_sem]
        have bx1_w5cca : w5cca.cell? ⟨w5cc.heap.size, 1, none⟩ = some (.int .i64 0) := by rw [← hw9]; simp [go_sem]
        have bf1_w5cca : w5cca.frozen? ⟨w5cc.heap.size, 1, none⟩ = false := by rw [← hw9]; simp [go_sem]
        have hl_w5cca : w5cc.heap.size < w5cca.heap.size := by rw [← hw9]; simp
        clear hw9
        have k0_9 := bx0_w5cca
        have l0_9 := bf0_w5cca
        have k1_9 := bx1_w5cca
        have l1_9 := bf1_w5cca
        refine wpAnyH_ready (rs := [8]) (by kernel_rfl) (by simp) ?_
        refine AllReadyH.cons rfl (fun K hK => ?_) AllReadyH.nil
        go_simp
        have hge_w5cca : w5.heap.size ≤ w5cc.heap.size := hb_w5cc.size
        refine hK.out _ _ ⟨keep1 ((hb_w5cca.setCell (by first | exact Nat.le_refl _ | exact Nat.le_of_lt hl_w5cca | exact hge_w5cca) _).setCell (by first | exact Nat.le_refl _ | exact Nat.le_of_lt hl_w5cca | exact hge_w5cca) _) ba_5, keep1 ((hb_w5cca.setCell (by first | exact Nat.le_refl _ | exact Nat.le_of_lt hl_w5cca | exact hge_w5cca) _).setCell (by first | exact Nat.le_refl _ | exact Nat.le_of_lt hl_w5cca | exact hge_w5cca) _) va_5⟩ (fun hHeld => ?_)
        clear hK K
        try simp only [Act.put, List.setIfInBounds_toArray, List.set_cons_zero, List.set_cons_succ]
        refine wpAnyH_done (by kernel_rfl) ?_ _
        try go_simp
        go_wp2_with fail
        go_meet
        refine ⟨w5cc.heap.size, rfl, by have := HD5.out.size; have := hge_w5cca; omega, ?_, ?_, ?_⟩
        · exact Lib.hid ((World.cell?_setCell_other _ _ _ _ (by simp)).trans (World.cell?_setCell_same' _ _ _ (by rw [k0_9]; rfl)))
        · exact Lib.hid (World.cell?_setCell_same' _ _ _ (by rw [World.cell?_setCell_other _ _ _ _ (by simp)]; rw [k1_9]; rfl))
        · exact Lib.hid (HD5.out.trans (((hb_w5cca.setCell (by first | exact Nat.le_refl _ | exact Nat.le_of_lt hl_w5cca | exact hge_w5cca) _).setCell (by first | exact Nat.le_refl _ | exact Nat.le_of_lt hl_w5cca | exact hge_w5cca) _).mono HD5.out.size))
      · skip
        go_simp
        refine hK.out _ _ ⟨keep1 (hb_w5c.alloc hb_w5c.size _) ba_5, keep1 (hb_w5c.alloc hb_w5c.size _) va_5⟩ (fun hHeld => ?_)
        clear hK K
        try simp only [Act.put, List.setIfInBounds_toArray, List.set_cons_zero, List.set_cons_succ]
        generalize hw9 : (World.alloc _ _) = w5ca at hHeld ⊢
        have hb_w5ca : Below w5.heap.size w5 w5ca := by rw [← hw9]; exact hb_w5c.alloc hb_w5c.size _
        have bx0_w5ca : w5ca.cell? ⟨w5c.heap.size, 0, none⟩ = some (.int .i64 0) := by rw [← hw9]; simp [go_sem]
        have bf0_w5ca : w5ca.frozen? ⟨w5c.heap.size, 0, none⟩ = false := by rw [← hw9]; simp [go_sem]
        have bx1_w5ca : w5ca.cell? ⟨w5c.heap.size, 1, none⟩ = some (.int .i64 0) := by rw [← hw9]; simp [go_sem]
        have bf1_w5ca : w5ca.frozen? ⟨w5c.heap.size, 1, none⟩ = false := by rw [← hw9]; simp [go_sem]
        have hl_w5ca : w5c.heap.size < w5ca.heap.size := by rw [← hw9]; simp
        clear hw9
        refine wpAnyH_ready (rs := [5]) (by kernel_rfl) (by simp) ?_
        refine AllReadyH.cons rfl (fun K hK => ?_) AllReadyH.nil
        go_simp
        refine (implLess_v dsa ba (m : Int) (x : Int) _ _ _ _ ((Sa_5.out.below hb_w5ca).call hb_w5ca.size) (by omega) HL.out.q_).mono ?_
        rintro e w5cac ⟨rfl, hb⟩
        have hb_w5cac : Below w5.heap.size w5 w5cac := hb_w5ca.trans (hb.mono hb_w5ca.size)
        have bx0_w5cac := keep1 hb bx0_w5ca
        have bf0_w5cac : w5cac.frozen? ⟨w5c.heap.size, 0, none⟩ = false := (hb.frozen (p := ⟨w5c.heap.size, 0, none⟩) hl_w5ca).trans bf0_w5ca
        have bx1_w5cac := keep1 hb bx1_w5ca
        have bf1_w5cac : w5cac.frozen? ⟨w5c.heap.size, 1, none⟩ = false := (hb.frozen (p := ⟨w5c.heap.size, 1, none⟩) hl_w5ca).trans bf1_w5ca
        have hl_w5cac : w5c.heap.size < w5cac.heap.size := Nat.lt_of_lt_of_le hl_w5ca hb.size
        have hlo := hl_w5ca
        go_simp
        refine hK.out _ _ ⟨keep1 hb_w5cac ba_5, keep1 hb_w5cac va_5⟩ (fun hHeld => ?_)
        clear hb hK K
        try simp only [Act.put, List.setIfInBounds_toArray, List.set_cons_zero, List.set_cons_succ]
        refine wpAnyH_take (i := 6) (v := ?_) rfl (by kernel_rfl) (by kernel_rfl) (by kernel_rfl) (fun _ _ _ h => h) (Or.inl ⟨by kernel_rfl, ?_⟩) hHeld ?_
        rotate_left
        · intro wz hSw
          try dsimp only at hSw
          first
          | (go_simp; done)
          | (go_simp; with_reducible rfl)
        try simp only [Act.put, List.setIfInBounds_toArray, List.set_cons_zero, List.set_cons_succ]
        have k0_9 := bx0_w5cac
        have l0_9 := bf0_w5cac
        have k1_9 := bx1_w5cac
        have l1_9 := bf1_w5cac
        refine wpAnyH_ready (rs := [8]) (by kernel_rfl) (by simp) ?_
        refine AllReadyH.cons rfl (fun K hK => ?_) AllReadyH.nil
        go_simp
        have hge_w5cac : w5.heap.size ≤ w5c.heap.size := hb_w5c.size
        refine hK.out _ _ ⟨keep1 ((hb_w5cac.setCell (by first | exact Nat.le_refl _ | exact Nat.le_of_lt hl_w5cac | exact hge_w5cac) _).setCell (by first | exact Nat.le_refl _ | exact Nat.le_of_lt hl_w5cac | exact hge_w5cac) _) ba_5, keep1 ((hb_w5cac.setCell (by first | exact Nat.le_refl _ | exact Nat.le_of_lt hl_w5cac | exact hge_w5cac) _).setCell (by first | exact Nat.le_refl _ | exact Nat.le_of_lt hl_w5cac | exact hge_w5cac) _) va_5⟩ (fun hHeld => ?_)
        clear hK K
        try simp only [Act.put, List.setIfInBounds_toArray, List.set_cons_zero, List.set_cons_succ]
        refine wpAnyH_done (by kernel_rfl) ?_ _
        try go_simp
        go_wp2_with fail
        go_meet
        refine ⟨w5c.heap.size, rfl, by have := HD5.out.size; have := hge_w5cac; omega, ?_, ?_, ?_⟩
        · exact Lib.hid ((World.cell?_setCell_other _ _ _ _ (by simp)).trans (World.cell?_setCell_same' _ _ _ (by rw [k0_9]; rfl)))
        · exact Lib.hid (World.cell?_setCell_same' _ _ _ (by rw [World.cell?_setCell_other _ _ _ _ (by simp)]; rw [k1_9]; rfl))
        · exact Lib.hid (HD5.out.trans (((hb_w5cac.setCell (by first | exact Nat.le_refl _ | exact Nat.le_of_lt hl_w5cac | exact hge_w5cac) _).setCell (by first | exact Nat.le_refl _ | exact Nat.le_of_lt hl_w5cac | exact hge_w5cac) _).mono HD5.out.size))
    · skip
      go_simp
      refine hK.out _ _ ⟨keep1 (hb_w5.alloc hb_w5.size _) ba_5, keep1 (hb_w5.alloc hb_w5.size _) va_5⟩ (fun hHeld => ?_)
      clear hK K
      try simp only [Act.put, List.setIfInBounds_toArray, List.set_cons_zero, List.set_cons_succ]
      generalize hw9 : (World.alloc _ _) = w5a at hHeld ⊢
      have hb_w5a : Below w5.heap.size w5 w5a := by rw [← hw9]; exact hb_w5.alloc hb_w5.size _
      have bx0_w5a : w5a.cell? ⟨w5.heap.size, 0, none⟩ = some (.int .i64 0) := by rw [← hw9]; simp [go_sem]
      have bf0_w5a : w5a.frozen? ⟨w5.heap.size, 0, none⟩ = false := by rw [← hw9]; simp [go_sem]
      have bx1_w5a : w5a.cell? ⟨w5.heap.size, 1, none⟩ = some (.int .i64 0) := by rw [← hw9]; simp [go_sem]
      have bf1_w5a : w5a.frozen? ⟨w5.heap.size, 1, none⟩ = false := by rw [← hw9]; simp [go_sem]
      have hl_w5a : w5.heap.size < w5a.heap.size := by rw [← hw9]; simp
      clear hw9
      refine wpAnyH_ready (rs := [3]) (by kernel_rfl) (by simp) ?_
      refine AllReadyH.cons rfl (fun K hK => ?_) AllReadyH.nil
      go_simp
      refine (implMaskOf_v dsa ba _ _ _ _ ((Sa_5.out.below hb_w5a).call hb_w5a.size) (by omega) HL.out.m_).mono ?_
      rintro e w5ac ⟨rfl, hb⟩
      have hb_w5ac : Below w5.heap.size w5 w5ac := hb_w5a.trans (hb.mono hb_w5a.size)
      have bx0_w5ac := keep1 hb bx0_w5a
      have bf0_w5ac : w5ac.frozen? ⟨w5.heap.size, 0, none⟩ = false := (hb.frozen (p := ⟨w5.heap.size, 0, none⟩) hl_w5a).trans bf0_w5a
      have bx1_w5ac := keep1 hb bx1_w5a
      have bf1_w5ac : w5ac.frozen? ⟨w5.heap.size, 1, none⟩ = false := (hb.frozen (p := ⟨w5.heap.size, 1, none⟩) hl_w5a).trans bf1_w5a
      have hl_w5ac : w5.heap.size < w5ac.heap.size := Nat.lt_of_lt_of_le hl_w5a hb.size
      have hlo := hl_w5a
      go_simp
      refine hK.out _ _ ⟨keep1 hb_w5ac ba_5, keep1 hb_w5ac va_5⟩ (fun hHeld => ?_)
      clear hb hK K
      try simp only [Act.put, List.setIfInBounds_toArray, List.set_cons_zero, List.set_cons_succ]
      refine wpAnyH_ready (rs := [5]) (by kernel_rfl) (by simp) ?_
      refine AllReadyH.cons rfl (fun K hK => ?_) AllReadyH.nil
      go_simp
      refine (implLess_v dsa ba (m : Int) (x : Int) _ _ _ _ ((Sa_5.out.below hb_w5ac).call hb_w5ac.size) (by omega) HL.out.q_).mono ?_
      rintro e w5acc ⟨rfl, hb⟩
      have hb_w5acc : Below w5.heap.size w5 w5acc := hb_w5ac.trans (hb.mono hb_w5ac.size)
      have bx0_w5acc := keep1 hb bx0_w5ac
      have bf0_w5acc : w5acc.frozen? ⟨w5.heap.size, 0, none⟩ = false := (hb.frozen (p := ⟨w5.heap.size, 0, none⟩) hl_w5ac).trans bf0_w5ac
      have bx1_w5acc := keep1 hb bx1_w5ac
      have bf1_w5acc : w5acc.frozen? ⟨w5.heap.size, 1, none⟩ = false := (hb.frozen (p := ⟨w5.heap.size, 1, none⟩) hl_w5ac).trans bf1_w5ac
      have hl_w5acc : w5.heap.size < w5acc.heap.size := Nat.lt_of_lt_of_le hl_w5ac hb.size
      have hlo := hl_w5ac
      go_simp
      refine hK.out _ _ ⟨keep1 hb_w5acc ba_5, keep1 hb_w5acc va_5⟩ (fun hHeld => ?_)
      clear hb hK K
      try simp only [Act.put, List.setIfInBounds_toArray, List.set_cons_zero, List.set_cons_succ]
      refine wpAnyH_take (i := 6) (v := ?_) rfl (by kernel_rfl) (by kernel_rfl) (by kernel_rfl) (fun _ _ _ h => h) (Or.inl ⟨by kernel_rfl, ?_⟩) hHeld ?_
      rotate_left
      · intro wz hSw
        try dsimp only at hSw
        first
        | (go_simp; done)
        | (go_simp; with_reducible rfl)
      try simp only [Act.put, List.setIfInBounds_toArray, List.set_cons_zero, List.set_cons_succ]
      have k0_9 := bx0_w5acc
      have l0_9 := bf0_w5acc
      have k1_9 := bx1_w5acc
      have l1_9 := bf1_w5acc
      refine wpAnyH_ready (rs := [8]) (by kernel_rfl) (by simp) ?_
      refine AllReadyH.cons rfl (fun K hK => ?_) AllReadyH.nil
      go_simp
      have hge_w5acc : w5.heap.size ≤ w5.heap.size := Nat.le_refl _
      refine hK.out _ _ ⟨keep1 ((hb_w5acc.setCell (by first | exact Nat.le_refl _ | exact Nat.le_of_lt hl_w5acc | exact hge_w5acc) _).setCell (by first | exact Nat.le_refl _ | exact Nat.le_of_lt hl_w5acc | exact hge_w5acc) _) ba_5, keep1 ((hb_w5acc.setCell (by first | exact Nat.le_refl _ | exact Nat.le_of_lt hl_w5acc | exact hge_w5acc) _).setCell (by first | exact Nat.le_refl _ | exact Nat.le_of_lt hl_w5acc | exact hge_w5acc) _) va_5⟩ (fun hHeld => ?_)
      clear hK K
      try simp only [Act.put, List.setIfInBounds_toArray, List.set_cons_zero, List.set_cons_succ]
      refine wpAnyH_done (by kernel_rfl) ?_ _
      try go_simp
      go_wp2_with fail
      go_meet
      refine ⟨w5.heap.size, rfl, by have := HD5.out.size; have := hge_w5acc; omega, ?_, ?_, ?_⟩
      · exact Lib.hid ((World.cell?_setCell_other _ _ _ _ (by simp)).trans (World.cell?_setCell_same' _ _ _ (by rw [k0_9]; rfl)))
      · exact Lib.hid (World.cell?_setCell_same' _ _ _ (by rw [World.cell?_setCell_other _ _ _ _ (by simp)]; rw [k1_9]; rfl))
      · exact Lib.hid (HD5.out.trans (((hb_w5acc.setCell (by first | exact Nat.le_refl _ | exact Nat.le_of_lt hl_w5acc | exact hge_w5acc) _).setCell (by first | exact Nat.le_refl _ | exact Nat.le_of_lt hl_w5acc | exact hge_w5acc) _).mono HD5.out.size))
  case rest =>
    obtain ⟨X, hs, hX, hx0, hx1, hb⟩ := hcut
    subst hs
    obtain ⟨w5, e8⟩ : ∃ W : World, W = wc := ⟨_, rfl⟩
    subst e8
    replace hb := hb.out
    have ba_5 := keep1 hb ba_4
    have va_5 := keep1 hb va_4
    have Sa_5 := Lib.hid ((Sa_4.out.below hb).call hb.size)
    have Ss_5 := Lib.hid ((Ss_4.out.below hb).call hb.size)
    have HB_5 : Hid (Below w.heap.size w w5) := Lib.hid (HB_4.out.trans (hb.mono HB_4.out.size))
    have px_5 := hx0.out
    have qx_5 := hx1.out
    clear hb hx0 hx1 hX ba_4 va_4 Sa_4 Ss_4 HB_4
    go_upto_region 8 with fail
    go_cut [7] (fun s wx => s = .int .i64 y ∧ Hid (Below w5.heap.size w5 wx))
    case first =>
      obtain ⟨i0, hi, hz0, hz1, hz2⟩ := info_parts info_A
      have HI := Lib.hid (And.intro hi (And.intro hz0 (And.intro hz1 hz2)))
      clear hi hz0 hz1 hz2
      refine wp_region_held_drew (S := (fun w' => w'.cell? ⟨w1.heap.size, 0, none⟩ = some (.slice Aa dsa.length ca) ∧ w'.cell? ⟨w1.heap.size, 1, none⟩ = some (.int .i64 ba) ∧ w'.cell? ⟨X, 0, none⟩ = some (.int .i64 x) ∧ w'.cell? ⟨X, 1, none⟩ = some (.int .i64 q))) (by kernel_rfl) ⟨ba_5, va_5, px_5, qx_5⟩ (fun hHeld => ?_)
      generalize hwd : w5.drew = w6 at hHeld ⊢
      have hb : Below w5.heap.size w5 w6 := by rw [← hwd]; exact (Below.refl _ _).drew
      have ba_6 := keep1 hb ba_5
      have va_6 := keep1 hb va_5
      have px_6 := keep1 hb px_5
      have qx_6 := keep1 hb qx_5
      have Sa_6 := Lib.hid ((Sa_5.out.below hb).call hb.size)
      have Ss_6 := Lib.hid ((Ss_5.out.below hb).call hb.size)
      have HB_6 : Hid (Below w.heap.size w w6) := Lib.hid (HB_5.out.trans (hb.mono HB_5.out.size))
      have HXD := Lib.hid hb
      clear hb hwd ba_5 va_5 px_5 qx_5 Sa_5 Ss_5 HB_5
      have hb_w6 : Below w6.heap.size w6 w6 := Below.refl _ _
      refine wpAnyH_take (i := 0) (v := ?_) rfl (by kernel_rfl) (by kernel_rfl) (by kernel_rfl) (fun _ _ _ h => h) (Or.inl ⟨by kernel_rfl, ?_⟩) hHeld ?_
      rotate_left
      · intro wz hSw
        try dsimp only at hSw
        first
        | (go_simp; done)
        | (go_simp; with_reducible rfl)
      try simp only [Act.put, List.setIfInBounds_toArray, List.set_cons_zero, List.set_cons_succ]
      refine wpAnyH_take (i := 2) (v := ?_) rfl (by kernel_rfl) (by kernel_rfl) (by kernel_rfl) (fun _ _ _ h => h) (Or.inl ⟨by kernel_rfl, ?_⟩) hHeld ?_
      rotate_left
      · intro wz hSw
        try dsimp only at hSw
        first
        | (go_simp; done)
        | (go_simp; with_reducible rfl)
      try simp only [Act.put, List.setIfInBounds_toArray, List.set_cons_zero, List.set_cons_succ]
      refine wpAnyH_take (i := 4) (v := ?_) rfl (by kernel_rfl) (by kernel_rfl) (by kernel_rfl) (fun _ _ _ h => h) (Or.inl ⟨by kernel_rfl, ?_⟩) hHeld ?_
      rotate_left
      · intro wz hSw
        try dsimp only at hSw
        first
        | (go_simp; done)
        | (go_simp; with_reducible rfl)
      try simp only [Act.put, List.setIfInBounds_toArray, List.set_cons_zero, List.set_cons_succ]
      refine wpAnyH_ready (rs := [1, 5]) (by kernel_rfl) (by simp) ?_
      refine AllReadyH.cons rfl (fun K hK => ?_) (AllReadyH.cons rfl (fun K hK => ?_) AllReadyH.nil)
      · skip
        go_simp
        refine hK.out _ _ ⟨keep1 (hb_w6.alloc hb_w6.size _) ba_6, keep1 (hb_w6.alloc hb_w6.size _) va_6, keep1 (hb_w6.alloc hb_w6.size _) px_6, keep1 (hb_w6.alloc hb_w6.size _) qx_6⟩ (fun hHeld => ?_)
        clear hK K
        try simp only [Act.put, List.setIfInBounds_toArray, List.set_cons_zero, List.set_cons_succ]
        generalize hw9 : (World.alloc _ _) = w6A at hHeld ⊢
        have hb_w6A : Below w6.heap.size w6 w6A := by rw [← hw9]; exact hb_w6.alloc hb_w6.size _
        have hz_w6A : Hid (w6A.heap.size = w6.heap.size + 1) := Lib.hid (by rw [← hw9]; simp)
        have ow_w6A : Hid (w6A.ownsRow w6.heap.size 40 2 (.slice (some ⟨w6.heap.size, 0, none⟩) 0 0) 0 []) := Lib.hid (by rw [← hw9]; exact World.ownsRow_made w6 #[] 0 hb_w6.size (by unfold maxLen; omega) rfl)
        clear hw9
        refine wpAnyH_ready (rs := [3, 5]) (by kernel_rfl) (by simp) ?_
        refine AllReadyH.cons rfl (fun K hK => ?_) (AllReadyH.cons rfl (fun K hK => ?_) AllReadyH.nil)
        · skip
          refine step_app_src rfl _ _ _ rfl w6.heap.size _ i0 _ 2 16 Try.underlying34 HI.out rfl (by omega) (by omega) _ 0 _ rfl ow_w6A.out _ _ _ _ rfl ((slA (Ss_6.out.below hb_w6A)).src (fun _ => rfl)) (one_A _) (by omega) hb_w6A.size ?_
          intro v9 w6A1 ho9 hg9
          rw [Nat.zero_add, List.nil_append] at ho9
          obtain ⟨A9, c9, rfl⟩ := own_form ho9
          have hb_w6A1 : Below w6.heap.size w6 w6A1 := hb_w6A.grown hg9 hb_w6A.size (fun q hq => (ow_w6A.out.lt q hq).1)
          have ow_w6A1 := Lib.hid ho9
          clear ho9 hg9
          refine hK.out _ _ ⟨keep1 hb_w6A1 ba_6, keep1 hb_w6A1 va_6, keep1 hb_w6A1 px_6, keep1 hb_w6A1 qx_6⟩ (fun hHeld => ?_)
          clear hK K
          try simp only [Act.put, List.setIfInBounds_toArray, List.set_cons_zero, List.set_cons_succ]
          refine wpAnyH_ready (rs := [5]) (by kernel_rfl) (by simp) ?_
          refine AllReadyH.cons rfl (fun K hK => ?_) AllReadyH.nil
          go_simp
          refine hK.out _ _ ⟨keep1 (hb_w6A1.alloc hb_w6A1.size _) ba_6, keep1 (hb_w6A1.alloc hb_w6A1.size _) va_6, keep1 (hb_w6A1.alloc hb_w6A1.size _) px_6, keep1 (hb_w6A1.alloc hb_w6A1.size _) qx_6⟩ (fun hHeld => ?_)
          clear hK K
          try simp only [Act.put, List.setIfInBounds_toArray, List.set_cons_zero, List.set_cons_succ]
          generalize hw9 : (World.alloc _ _) = w6A1B at hHeld ⊢
          have hb_w6A1B : Below w6.heap.size w6 w6A1B := by rw [← hw9]; exact hb_w6A1.alloc hb_w6A1.size _
          have hz_w6A1B : Hid (w6A1B.heap.size = w6A1.heap.size + 1) := Lib.hid (by rw [← hw9]; simp)
          have cx_w6A1B : w6A1B.cell? ⟨w6A1.heap.size, 0, none⟩ = some (.int .i64 x) := by rw [← hw9]; simp [go_sem]
          have cy_w6A1B : w6A1B.cell? ⟨w6A1.heap.size, 1, none⟩ = some (.int .i64 q) := by rw [← hw9]; simp [go_sem]
          have ow_w6A1B := Lib.hid (ow_w6A1.out.alloc (.cells #[.int .i64 x, .int .i64 q] 40))
          rw [hw9] at ow_w6A1B
          clear hw9
          refine wpAnyH_ready (rs := [6]) (by kernel_rfl) (by simp) ?_
          refine AllReadyH.cons rfl (fun K hK => ?_) AllReadyH.nil
          refine step_app_src rfl _ _ _ rfl w6.heap.size _ i0 _ 2 16 Try.underlying34 HI.out rfl (by omega) (by omega) _ (rs.length) _ rfl ow_w6A1B.out _ _ _ _ rfl (src_one cx_w6A1B cy_w6A1B) (one_A [⟨x, q⟩]) (by omega) hb_w6A1B.size ?_
          intro v9 w6A1B2 ho9 hg9
          obtain ⟨A9, c9, rfl⟩ := own_form ho9
          have hb_w6A1B2 : Below w6.heap.size w6 w6A1B2 := hb_w6A1B.grown hg9 hb_w6A1B.size (fun q hq => (ow_w6A1B.out.lt q hq).1)
          have ow_w6A1B2 := Lib.hid ho9
          clear ho9 hg9
          refine hK.out _ _ ⟨keep1 hb_w6A1B2 ba_6, keep1 hb_w6A1B2 va_6, keep1 hb_w6A1B2 px_6, keep1 hb_w6A1B2 qx_6⟩ (fun hHeld => ?_)
          clear hK K
          try simp only [Act.put, List.setIfInBounds_toArray, List.set_cons_zero, List.set_cons_succ]
          have HX_7 := Lib.hid (HXD.out.trans (hb_w6A1B2.mono HXD.out.size))
          obtain ⟨w7, hwn⟩ : ∃ W : World, W = w6A1B2 := ⟨_, rfl⟩
          subst hwn
          have hb := hb_w6A1B2
          have ba_7 := keep1 hb ba_6
          have va_7 := keep1 hb va_6
          have px_7 := keep1 hb px_6
          have qx_7 := keep1 hb qx_6
          have Sa_7 := Lib.hid ((Sa_6.out.below hb).call hb.size)
          have Ss_7 := Lib.hid ((Ss_6.out.below hb).call hb.size)
          have HB_7 : Hid (Below w.heap.size w w7) := Lib.hid (HB_6.out.trans (hb.mono HB_6.out.size))
          have Sl_7 := Lib.hid (sa_of_own (ks := rs ++ [⟨x, q⟩]) (by rw [flatA_app]; exact ow_w6A1B2.out) OKL.out)
          clear hb ba_6 va_6 px_6 qx_6 Sa_6 Ss_6 HB_6
          refine wpAnyH_ready (rs := [7]) (by kernel_rfl) (by simp) ?_
          refine AllReadyH.cons rfl (fun K hK => ?_) AllReadyH.nil
          go_simp
          refine (implMissed_v dsa ba (rs ++ [⟨(x : Int), (q : Int)⟩]) _ _ _ _ Sa_7.out _ _ _ Sl_7.out (by omega) HL.out.y_).mono ?_
          rintro e w8 ⟨rfl, hb⟩
          have ba_8 := keep1 hb ba_7
          have va_8 := keep1 hb va_7
          have px_8 := keep1 hb px_7
          have qx_8 := keep1 hb qx_7
          have Sa_8 := Lib.hid ((Sa_7.out.below hb).call hb.size)
          have Ss_8 := Lib.hid ((Ss_7.out.below hb).call hb.size)
          have Sl_8 := Lib.hid ((Sl_7.out.below hb).call hb.size)
          have HB_8 : Hid (Below w.heap.size w w8) := Lib.hid (HB_7.out.trans (hb.mono HB_7.out.size))
          have HX_8 := Lib.hid (HX_7.out.trans (hb.mono HX_7.out.size))
          go_simp
          refine hK.out _ _ ⟨ba_8, va_8, px_8, qx_8⟩ (fun hHeld => ?_)
          clear hb hK K ba_7 va_7 px_7 qx_7 Sa_7 Ss_7 Sl_7 HB_7
          try simp only [Act.put, List.setIfInBounds_toArray, List.set_cons_zero, List.set_cons_succ]
          refine wpAnyH_take (i := 8) (v := ?_) rfl (by kernel_rfl) (by kernel_rfl) (by kernel_rfl) (fun _ _ _ h => h) (Or.inl ⟨by kernel_rfl, ?_⟩) hHeld ?_
          rotate_left
          · intro wz hSw
            try dsimp only at hSw
            first
            | (go_simp; done)
            | (go_simp; with_reducible rfl)
          try simp only [Act.put, List.setIfInBounds_toArray, List.set_cons_zero, List.set_cons_succ]
          refine wpAnyH_done (by kernel_rfl) ?_ _
          try go_simp
          go_wp2_with fail
          go_meet
          exact ⟨rfl, HX_8⟩
        · skip
          go_simp
          refine hK.out _ _ ⟨keep1 (hb_w6A.alloc hb_w6A.size _) ba_6, keep1 (hb_w6A.alloc hb_w6A.size _) va_6, keep1 (hb_w6A.alloc hb_w6A.size _) px_6, keep1 (hb_w6A.alloc hb_w6A.size _) qx_6⟩ (fun hHeld => ?_)
          clear hK K
          try simp only [Act.put, List.setIfInBounds_toArray, List.set_cons_zero, List.set_cons_succ]
          generalize hw9 : (World.alloc _ _) = w6AB at hHeld ⊢
          have hb_w6AB : Below w6.heap.size w6 w6AB := by rw [← hw9]; exact hb_w6A.alloc hb_w6A.size _
          have hz_w6AB : Hid (w6AB.heap.size = w6A.heap.size + 1) := Lib.hid (by rw [← hw9]; simp)
          have cx_w6AB : w6AB.cell? ⟨w6A.heap.size, 0, none⟩ = some (.int .i64 x) := by rw [← hw9]; simp [go_sem]
          have cy_w6AB : w6AB.cell? ⟨w6A.heap.size, 1, none⟩ = some (.int .i64 q) := by rw [← hw9]; simp [go_sem]
          have ow_w6AB : Hid (w6AB.ownsRow w6.heap.size 40 2 (.slice (some ⟨w6.heap.size, 0, none⟩) 0 0) 0 []) := Lib.hid (by rw [← hw9]; exact ow_w6A.out.alloc _)
          clear hw9
          refine wpAnyH_ready (rs := [3]) (by kernel_rfl) (by simp) ?_
          refine AllReadyH.cons rfl (fun K hK => ?_) AllReadyH.nil
          refine step_app_src rfl _ _ _ rfl w6.heap.size _ i0 _ 2 16 Try.underlying34 HI.out rfl (by omega) (by omega) _ 0 _ rfl ow_w6AB.out _ _ _ _ rfl ((slA (Ss_6.out.below hb_w6AB)).src (fun _ => rfl)) (one_A _) (by omega) hb_w6AB.size ?_
          intro v9 w6AB1 ho9 hg9
          rw [Nat.zero_add, List.nil_append] at ho9
          obtain ⟨A9, c9, rfl⟩ := own_form ho9
          have hb_w6AB1 : Below w6.heap.size w6 w6AB1 := hb_w6AB.grown hg9 hb_w6AB.size (fun q hq => (ow_w6AB.out.lt q hq).1)
          have ow_w6AB1 := Lib.hid ho9
          have cx_w6AB1 := hg9.cell cx_w6AB (fun e => by have e2 : w6A.heap.size = w6.heap.size := Option.some.inj e; have h1 := hz_w6A.out; omega)
          have cy_w6AB1 := hg9.cell cy_w6AB (fun e => by have e2 : w6A.heap.size = w6.heap.size := Option.some.inj e; have h1 := hz_w6A.out; omega)
          clear ho9 hg9
          refine hK.out _ _ ⟨keep1 hb_w6AB1 ba_6, keep1 hb_w6AB1 va_6, keep1 hb_w6AB1 px_6, keep1 hb_w6AB1 qx_6⟩ (fun hHeld => ?_)
          clear hK K
          try simp only [Act.put, List.setIfInBounds_toArray, List.set_cons_zero, List.set_cons_succ]
          refine wpAnyH_ready (rs := [6]) (by kernel_rfl) (by simp) ?_
          refine AllReadyH.cons rfl (fun K hK => ?_) AllReadyH.nil
          refine step_app_src rfl _ _ _ rfl w6.heap.size _ i0 _ 2 16 Try.underlying34 HI.out rfl (by omega) (by omega) _ (rs.length) _ rfl ow_w6AB1.out _ _ _ _ rfl (src_one cx_w6AB1 cy_w6AB1) (one_A [⟨x, q⟩]) (by omega) hb_w6AB1.size ?_
          intro v9 w6AB12 ho9 hg9
          obtain ⟨A9, c9, rfl⟩ := own_form ho9
          have hb_w6AB12 : Below w6.heap.size w6 w6AB12 := hb_w6AB1.grown hg9 hb_w6AB1.size (fun q hq => (ow_w6AB1.out.lt q hq).1)
          have ow_w6AB12 := Lib.hid ho9
          clear ho9 hg9
          refine hK.out _ _ ⟨keep1 hb_w6AB12 ba_6, keep1 hb_w6AB12 va_6, keep1 hb_w6AB12 px_6, keep1 hb_w6AB12 qx_6⟩ (fun hHeld => ?_)
          clear hK K
          try simp only [Act.put, List.setIfInBounds_toArray, List.set_cons_zero, List.set_cons_succ]
          have HX_7 := Lib.hid (HXD.out.trans (hb_w6AB12.mono HXD.out.size))
          obtain ⟨w7, hwn⟩ : ∃ W : World, W = w6AB12 := ⟨_, rfl⟩
          subst hwn
          have hb := hb_w6AB12
          have ba_7 := keep1 hb ba_6
          have va_7 := keep1 hb va_6
          have px_7 := keep1 hb px_6
          have qx_7 := keep1 hb qx_6
          have Sa_7 := Lib.hid ((Sa_6.out.below hb).call hb.size)
          have Ss_7 := Lib.hid ((Ss_6.out.below hb).call hb.size)
          have HB_7 : Hid (Below w.heap.size w w7) := Lib.hid (HB_6.out.trans (hb.mono HB_6.out.size))
          have Sl_7 := Lib.hid (sa_of_own (ks := rs ++ [⟨x, q⟩]) (by rw [flatA_app]; exact ow_w6AB12.out) OKL.out)
          clear hb ba_6 va_6 px_6 qx_6 Sa_6 Ss_6 HB_6
          refine wpAnyH_ready (rs := [7]) (by kernel_rfl) (by simp) ?_
          refine AllReadyH.cons rfl (fun K hK => ?_) AllReadyH.nil
          go_simp
          refine (implMissed_v dsa ba (rs ++ [⟨(x : Int), (q : Int)⟩]) _ _ _ _ Sa_7.out _ _ _ Sl_7.out (by omega) HL.out.y_).mono ?_
          rintro e w8 ⟨rfl, hb⟩
          have ba_8 := keep1 hb ba_7
          have va_8 := keep1 hb va_7
          have px_8 := keep1 hb px_7
          have qx_8 := keep1 hb qx_7
          have Sa_8 := Lib.hid ((Sa_7.out.below hb).call hb.size)
          have Ss_8 := Lib.hid ((Ss_7.out.below hb).call hb.size)
          have Sl_8 := Lib.hid ((Sl_7.out.below hb).call hb.size)
          have HB_8 : Hid (Below w.heap.size w w8) := Lib.hid (HB_7.out.trans (hb.mono HB_7.out.size))
          have HX_8 := Lib.hid (HX_7.out.trans (hb.mono HX_7.out.size))
          go_simp
          refine hK.out _ _ ⟨ba_8, va_8, px_8, qx_8⟩ (fun hHeld => ?_)
          clear hb hK K ba_7 va_7 px_7 qx_7 Sa_7 Ss_7 Sl_7 HB_7
          try simp only [Act.put, List.setIfInBounds_toArray, List.set_cons_zero, List.set_cons_succ]
          refine wpAnyH_take (i := 8) (v := ?_) rfl (by kernel_rfl) (by kernel_rfl) (by kernel_rfl) (fun _ _ _ h => h) (Or.inl ⟨by kernel_rfl, ?_⟩) hHeld ?_
          rotate_left
          · intro wz hSw
            try dsimp only at hSw
            first
            | (go_simp; done)
            | (go_simp; with_reducible rfl)
          try simp only [Act.put, List.setIfInBounds_toArray, List.set_cons_zero, List.set_cons_succ]
          refine wpAnyH_done (by kernel_rfl) ?_ _
          try go_simp
          go_wp2_with fail
          go_meet
          exact ⟨rfl, HX_8⟩
      · skip
        go_simp
        refine hK.out _ _ ⟨keep1 (hb_w6.alloc hb_w6.size _) ba_6, keep1 (hb_w6.alloc hb_w6.size _) va_6, keep1 (hb_w6.alloc hb_w6.size _) px_6, keep1 (hb_w6.alloc hb_w6.size _) qx_6⟩ (fun hHeld => ?_)
        clear hK K
        try simp only [Act.put, List.setIfInBounds_toArray, List.set_cons_zero, List.set_cons_succ]
        generalize hw9 : (World.alloc _ _) = w6B at hHeld ⊢
        have hb_w6B : Below w6.heap.size w6 w6B := by rw [← hw9]; exact hb_w6.alloc hb_w6.size _
        have hz_w6B : Hid (w6B.heap.size = w6.heap.size + 1) := Lib.hid (by rw [← hw9]; simp)
        have cx_w6B : w6B.cell? ⟨w6.heap.size, 0, none⟩ = some (.int .i64 x) := by rw [← hw9]; simp [go_sem]
        have cy_w6B : w6B.cell? ⟨w6.heap.size, 1, none⟩ = some (.int .i64 q) := by rw [← hw9]; simp [go_sem]
        clear hw9
        refine wpAnyH_ready (rs := [1]) (by kernel_rfl) (by simp) ?_
        refine AllReadyH.cons rfl (fun K hK => ?_) AllReadyH.nil
        go_simp
        refine hK.out _ _ ⟨keep1 (hb_w6B.alloc hb_w6B.size _) ba_6, keep1 (hb_w6B.alloc hb_w6B.size _) va_6, keep1 (hb_w6B.alloc hb_w6B.size _) px_6, keep1 (hb_w6B.alloc hb_w6B.size _) qx_6⟩ (fun hHeld => ?_)
        clear hK K
        try simp only [Act.put, List.setIfInBounds_toArray, List.set_cons_zero, List.set_cons_succ]
        generalize hw9 : (World.alloc _ _) = w6BA at hHeld ⊢
        have hb_w6BA : Below w6.heap.size w6 w6BA := by rw [← hw9]; exact hb_w6B.alloc hb_w6B.size _
        have hz_w6BA : Hid (w6BA.heap.size = w6B.heap.size + 1) := Lib.hid (by rw [← hw9]; simp)
        have ow_w6BA : Hid (w6BA.ownsRow w6.heap.size 40 2 (.slice (some ⟨w6B.heap.size, 0, none⟩) 0 0) 0 []) := Lib.hid (by rw [← hw9]; exact World.ownsRow_made w6B #[] 0 hb_w6B.size (by unfold maxLen; omega) rfl)
        have cx_w6BA : w6BA.cell? ⟨w6.heap.size, 0, none⟩ = some (.int .i64 x) := by rw [← hw9]; exact (World.cell?_alloc_lt _ _ _ (World.block_lt_of_cell? _ _ cx_w6B)).trans cx_w6B
        have cy_w6BA : w6BA.cell? ⟨w6.heap.size, 1, none⟩ = some (.int .i64 q) := by rw [← hw9]; exact (World.cell?_alloc_lt _ _ _ (World.block_lt_of_cell? _ _ cy_w6B)).trans cy_w6B
        clear hw9
        refine wpAnyH_ready (rs := [3]) (by kernel_rfl) (by simp) ?_
        refine AllReadyH.cons rfl (fun K hK => ?_) AllReadyH.nil
        refine step_app_src rfl _ _ _ rfl w6.heap.size _ i0 _ 2 16 Try.underlying34 HI.out rfl (by omega) (by omega) _ 0 _ rfl ow_w6BA.out _ _ _ _ rfl ((slA (Ss_6.out.below hb_w6BA)).src (fun _ => rfl)) (one_A _) (by omega) hb_w6BA.size ?_
        intro v9 w6BA1 ho9 hg9
        rw [Nat.zero_add, List.nil_append] at ho9
        obtain ⟨A9, c9, rfl⟩ := own_form ho9
        have hb_w6BA1 : Below w6.heap.size w6 w6BA1 := hb_w6BA.grown hg9 hb_w6BA.size (fun q hq => (ow_w6BA.out.lt q hq).1)
        have ow_w6BA1 := Lib.hid ho9
        have cx_w6BA1 := hg9.cell cx_w6BA (fun e => by have e2 : w6.heap.size = w6B.heap.size := Option.some.inj e; have h1 := hz_w6B.out; omega)
        have cy_w6BA1 := hg9.cell cy_w6BA (fun e => by have e2 : w6.heap.size = w6B.heap.size := Option.some.inj e; have h1 := hz_w6B.out; omega)
        clear ho9 hg9
        refine hK.out _ _ ⟨keep1 hb_w6BA1 ba_6, keep1 hb_w6BA1 va_6, keep1 hb_w6BA1 px_6, keep1 hb_w6BA1 qx_6⟩ (fun hHeld => ?_)
        clear hK K
        try simp only [Act.put, List.setIfInBounds_toArray, List.set_cons_zero, List.set_cons_succ]
        refine wpAnyH_ready (rs := [6]) (by kernel_rfl) (by simp) ?_
        refine AllReadyH.cons rfl (fun K hK => ?_) AllReadyH.nil
        refine step_app_src rfl _ _ _ rfl w6.heap.size _ i0 _ 2 16 Try.underlying34 HI.out rfl (by omega) (by omega) _ (rs.length) _ rfl ow_w6BA1.out _ _ _ _ rfl (src_one cx_w6BA1 cy_w6BA1) (one_A [⟨x, q⟩]) (by omega) hb_w6BA1.size ?_
        intro v9 w6BA12 ho9 hg9
        obtain ⟨A9, c9, rfl⟩ := own_form ho9
        have hb_w6BA12 : Below w6.heap.size w6 w6BA12 := hb_w6BA1.grown hg9 hb_w6BA1.size (fun q hq => (ow_w6BA1.out.lt q hq).1)
        have ow_w6BA12 := Lib.hid ho9
        clear ho9 hg9
        refine hK.out _ _ ⟨keep1 hb_w6BA12 ba_6, keep1 hb_w6BA12 va_6, keep1 hb_w6BA12 px_6, keep1 hb_w6BA12 qx_6⟩ (fun hHeld => ?_)
        clear hK K
        try simp only [Act.put, List.setIfInBounds_toArray, List.set_cons_zero, List.set_cons_succ]
        have HX_7 := Lib.hid (HXD.out.trans (hb_w6BA12.mono HXD.out.size))
        obtain ⟨w7, hwn⟩ : ∃ W : World, W = w6BA12 := ⟨_, rfl⟩
        subst hwn
        have hb := hb_w6BA12
        have ba_7 := keep1 hb ba_6
        have va_7 := keep1 hb va_6
        have px_7 := keep1 hb px_6
        have qx_7 := keep1 hb qx_6
        have Sa_7 := Lib.hid ((Sa_6.out.below hb).call hb.size)
        have Ss_7 := Lib.hid ((Ss_6.out.below hb).call hb.size)
        have HB_7 : Hid (Below w.heap.size w w7) := Lib.hid (HB_6.out.trans (hb.mono HB_6.out.size))
        have Sl_7 := Lib.hid (sa_of_own (ks := rs ++ [⟨x, q⟩]) (by rw [flatA_app]; exact ow_w6BA12.out) OKL.out)
        clear hb ba_6 va_6 px_6 qx_6 Sa_6 Ss_6 HB_6
        refine wpAnyH_ready (rs := [7]) (by kernel_rfl) (by simp) ?_
        refine AllReadyH.cons rfl (fun K hK => ?_) AllReadyH.nil
        go_simp
        refine (implMissed_v dsa ba (rs ++ [⟨(x : Int), (q : Int)⟩]) _ _ _ _ Sa_7.out _ _ _ Sl_7.out (by omega) HL.out.y_).mono ?_
        rintro e w8 ⟨rfl, hb⟩
        have ba_8 := keep1 hb ba_7
        have va_8 := keep1 hb va_7
        have px_8 := keep1 hb px_7
        have qx_8 := keep1 hb qx_7
        have Sa_8 := Lib.hid ((Sa_7.out.below hb).call hb.size)
        have Ss_8 := Lib.hid ((Ss_7.out.below hb).call hb.size)
        have Sl_8 := Lib.hid ((Sl_7.out.below hb).call hb.size)
        have HB_8 : Hid (Below w.heap.size w w8) := Lib.hid (HB_7.out.trans (hb.mono HB_7.out.size))
        have HX_8 := Lib.hid (HX_7.out.trans (hb.mono HX_7.out.size))
        go_simp
        refine hK.out _ _ ⟨ba_8, va_8, px_8, qx_8⟩ (fun hHeld => ?_)
        clear hb hK K ba_7 va_7 px_7 qx_7 Sa_7 Ss_7 Sl_7 HB_7
        try simp only [Act.put, List.setIfInBounds_toArray, List.set_cons_zero, List.set_cons_succ]
        refine wpAnyH_take (i := 8) (v := ?_) rfl (by kernel_rfl) (by kernel_rfl) (by kernel_rfl) (fun _ _ _ h => h) (Or.inl ⟨by kernel_rfl, ?_⟩) hHeld ?_
        rotate_left
        · intro wz hSw
          try dsimp only at hSw
          first
          | (go_simp; done)
          | (go_simp; with_reducible rfl)
        try simp only [Act.put, List.setIfInBounds_toArray, List.set_cons_zero, List.set_cons_succ]
        refine wpAnyH_done (by kernel_rfl) ?_ _
        try go_simp
        go_wp2_with fail
        go_meet
        exact ⟨rfl, HX_8⟩
    case rest =>
      obtain ⟨hs, hb⟩ := hcut
      subst hs
      obtain ⟨w6, e8⟩ : ∃ W : World, W = wc := ⟨_, rfl⟩
      subst e8
      replace hb := hb.out
      have ba_6 := keep1 hb ba_5
      have va_6 := keep1 hb va_5
      have px_6 := keep1 hb px_5
      have qx_6 := keep1 hb qx_5
      have Sa_6 := Lib.hid ((Sa_5.out.below hb).call hb.size)
      have Ss_6 := Lib.hid ((Ss_5.out.below hb).call hb.size)
      have HB_6 : Hid (Below w.heap.size w w6) := Lib.hid (HB_5.out.trans (hb.mono HB_5.out.size))
      clear hb ba_5 va_5 px_5 qx_5 Sa_5 Ss_5 HB_5
      clear px_6
      clear qx_6
      rcases hyy with hy | hy
      · skip
        subst hy
        go_wp2_with fail
        refine (implFirst_v dsa ba rs (x : Int) _ _ _ _ Sa_6.out _ _ _ Ss_6.out (by omega) HL.out.first).mono ?_
        rintro e w7 ⟨rfl, hb⟩
        have ba_7 := keep1 hb ba_6
        have va_7 := keep1 hb va_6
        have Sa_7 := Lib.hid ((Sa_6.out.below hb).call hb.size)
        have Ss_7 := Lib.hid ((Ss_6.out.below hb).call hb.size)
        have HB_7 : Hid (Below w.heap.size w w7) := Lib.hid (HB_6.out.trans (hb.mono HB_6.out.size))
        clear hb  ba_6 va_6 Sa_6 Ss_6 HB_6
        go_wp2_with fail
        refine (implIsV_v dsa ba (x : Int) _ _ _ _ Sa_7.out (by omega) HL.out.isv).mono ?_
        rintro e w8 ⟨rfl, hb⟩
        have ba_8 := keep1 hb ba_7
        have va_8 := keep1 hb va_7
        have Sa_8 := Lib.hid ((Sa_7.out.below hb).call hb.size)
        have Ss_8 := Lib.hid ((Ss_7.out.below hb).call hb.size)
        have HB_8 : Hid (Below w.heap.size w w8) := Lib.hid (HB_7.out.trans (hb.mono HB_7.out.size))
        clear hb  ba_7 va_7 Sa_7 Ss_7 HB_7
        go_wp2
        go_ret
        exact ⟨by first | rfl | kernel_rfl | (go_simp; done), HB_8.out⟩
      have hy1 : (y == -1) = false := by rw [beq_eq_false_iff_ne]; omega
      go_wp2_with fail
      refine (implFirst_v dsa ba rs (x : Int) _ _ _ _ Sa_6.out _ _ _ Ss_6.out (by omega) HL.out.first).mono ?_
      rintro e w7 ⟨rfl, hb⟩
      have ba_7 := keep1 hb ba_6
      have va_7 := keep1 hb va_6
      have Sa_7 := Lib.hid ((Sa_6.out.below hb).call hb.size)
      have Ss_7 := Lib.hid ((Ss_6.out.below hb).call hb.size)
      have HB_7 : Hid (Below w.heap.size w w7) := Lib.hid (HB_6.out.trans (hb.mono HB_6.out.size))
      clear hb  ba_6 va_6 Sa_6 Ss_6 HB_6
      go_wp2_with fail
      refine (implIsV_v dsa ba (x : Int) _ _ _ _ Sa_7.out (by omega) HL.out.isv).mono ?_
      rintro e w8 ⟨rfl, hb⟩
      have ba_8 := keep1 hb ba_7
      have va_8 := keep1 hb va_7
      have Sa_8 := Lib.hid ((Sa_7.out.below hb).call hb.size)
      have Ss_8 := Lib.hid ((Ss_7.out.below hb).call hb.size)
      have HB_8 : Hid (Below w.heap.size w w8) := Lib.hid (HB_7.out.trans (hb.mono HB_7.out.size))
      clear hb  ba_7 va_7 Sa_7 Ss_7 HB_7
      go_wp2
      go_ret
      exact ⟨by first | rfl | kernel_rfl | (go_simp; done), HB_8.out⟩

theorem lifted (os : Os) (started : os.Started) (H : Type) (enc : TypeId × Value → H) :
    ReturnsInHanded {} Try.checked os 5 .any (Rows.fnFirstMissedSpec.pre6 enc Try.prog Try.f5 Rows.fnFirstMissedRow.domain false) (Rows.fnFirstMissedSpec.post enc Try.prog Try.f5 false true false false) := by
  refine returnsInHanded_of_change (C := Try.checked) own started (by kernel_rfl) Try.func5
    (ChangeSpec.witness6 (enc := enc) (C := Try.checked) false ⟨#[], #[.slice none 0 0], []⟩ 8 (by kernel_rfl) (by kernel_rfl) (by kernel_rfl) (by kernel_rfl)) ?_
  intro W base args ds gs before hval0 hW hcnd _
  have hval : ∀ (j : Nat) t v, Try.f5.params[j]? = some t → args[j]? = some v → Value.okWide Try.prog W .any base t v := hval0
  have hW' := hW
  obtain ⟨p, q, hA0, hV, rfl, hfz, hnd⟩ := hW
  have hA : DataW.TrodAll enc Try.prog W 0 (fun _ => true) true Try.f5.params.toList args.toList ds p := hA0
  rw [Try.params5] at hA hval
  obtain ⟨v0, vs0, d0, ds0, p0, q0, hargs, rfl, rfl, h0, r0⟩ := trodAll_cons hA
  obtain ⟨rfl, rfl, rfl⟩ := trodAll_nil r0
  obtain rfl : args = #[v0] := by cases args; simp_all
  obtain ⟨rfl, rfl⟩ := trodVars_none hV
  have k0 := h0
  have lt0 : ∀ x ∈ p0, x.block < W.heap.size := by obtain ⟨m, hm⟩ := k0; exact DataW.trod_lt m _ _ _ hm
  obtain ⟨A0, n0, c0, l0, rfl, w0⟩ := open_code (hval 0 22 v0 rfl rfl) h0
  clear hA0 hval0
  refine (walk A0 n0 c0 l0 W w0).mono fun e W' ⟨he, bel⟩ => ?_
  subst he
  exact ⟨_, rfl, _, _, _, [], _, [], hW', trodAll_mk1 (shut_bool Try.underlying4 _), (trodAll_cons_mk (Below.trod laidOut (by kernel_rfl) (of_decide_eq_true (by kernel_rfl)) k0 bel lt0) trodAll_mk0), rfl, bel.frame _, fun h => by cases h⟩

theorem over : Rows.fnFirstMissedRow.holds Try.pinned (OpenSpec.ofChange Rows.fnFirstMissedSpec) :=
  OpenClaim.holds_of_wide 5 Try.f5 rfl rfl rfl rfl rfl rfl rfl ⟨rfl, rfl, rfl, rfl, rfl⟩ rfl rfl rfl rfl rfl (by kernel_rfl) Try.func5 (by kernel_rfl)
    (of_decide_eq_true (by kernel_rfl)) (by unfold Func.isWrapper; first | (rw [if_pos (by decide +kernel)]; kernel_rfl) | (rw [if_neg (by decide +kernel)]; exact ⟨rfl, rfl⟩))
    (fun os started H enc _ => lifted os started H enc)

theorem proved : Rows.FnFirstMissedSaid := over
end Go.Proofs.Ytkholjcmaebaaaa.fnFirstMissed
