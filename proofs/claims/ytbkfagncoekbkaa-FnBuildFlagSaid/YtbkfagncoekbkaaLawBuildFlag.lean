/-
For every code the law of automatic bits that are new returns true: the program's BuildFlag answers as its model, with the names of the items and their values, and for each that is automatic one bit, greater than all values ahead of it.
Conditions: none.
-/
import Derived.Test.YtbkfagncoekbkaaGenBf
import Derived.Test.YtbkfagncoekbkaaOpenC
import Derived.Test.YtbkfagncoekbkaaLFlag
import Derived.Test.YtbkfagncoekbkaaLBf
import Derived.Test.YtbkfagncoekbkaaLKept
import Derived.Test.YtbkfagncoekbkaaBldG
import Derived.Test.YtbkfagncoekbkaaBldH
import Derived.Test.YtbkfagncoekbkaaAlgI
namespace Go.Proofs.Ytbkfagncoekbkaa.fnBuildFlag
open Go.ChangeShapes Go.WideShapes Go.ChangeAt Go.RowKit
open Go.ChangeMaps (open_string shut_string)
set_option linter.unusedVariables false
set_option linter.unusedSimpArgs false
set_option maxRecDepth 100000

set_option maxHeartbeats 16000000 in
theorem walk (A : Option Addr) (n c : Nat) (zs : List Int) (w : World) (h : SB w w.heap.size A n c zs) :
    Calls Try.prog 4 #[.slice A n c] w fun e w' => e = .returned (.bool true) ∧ Below w.heap.size w w' := by
  have hm := h.max
  have hcap := h.cap
  unfold maxLen at hm
  have HS0 := Lib.hid h
  clear h
  by_cases hbig : 1048576 < (n : Int)
  · go_enter Try.func4, Try.ntmps4
    go_wp2
    go_ret
    exact ⟨rfl, Below.refl _ _⟩
  go_enter Try.func4, Try.ntmps4
  go_wp2_with fail
  refine (drawBuildFlag_any A n c zs _ HS0.out).mono ?_
  rintro e w1 ⟨At, ct, ts, nb, rfl, hnt, hsmt, hnb, hst, hb⟩
  have HB_1 := Lib.hid hb
  have St_1 := Lib.hid hst
  clear hb hst
  have hml := mBldF_len ts nb
  have OKM := Lib.hid (mBldF_ok (b := nb) (fun t ht => It.small_ok (hsmt t ht)))
  have HFIT : Hid (builtF ts nb = true → FFit ts nb (mBldF ts nb) ∧ mBldB ts nb = nb) := Lib.hid ffit
  have HIM : Hid (∀ (A : Option Addr) (n c : Nat) (w : World), ST w w.heap.size A n c ts → Calls Try.prog 20 #[.slice A n c, .int .i64 nb] w (BldFP ts nb w)) := Lib.hid fun A n c w h => implBuildF_any ts nb A c n w h
  have HSP : Hid (∀ (A : Option Addr) (n c : Nat) (w : World), ST w w.heap.size A n c ts → Calls Try.prog 21 #[.slice A n c, .int .i64 nb] w (BldFP ts nb w)) := Lib.hid fun A n c w h => specBuildF_any ts nb A c n w h
  unfold BldFP FlagR at HIM HSP
  generalize mBldF ts nb = ms at *
  generalize mBldB ts nb = rb at *
  generalize builtF ts nb = ok at *
  clear hsmt
  go_wp2_with fail
  refine (HIM.out _ _ _ _ St_1.out).mono ?_
  rintro e w2 ⟨Ag, cg, rfl, ho, hb⟩
  have St_2 := Lib.hid ((St_1.out.below hb).call hb.size)
  have HB_2 : Hid (Below w.heap.size w w2) := Lib.hid (HB_1.out.trans (hb.mono HB_1.out.size))
  have Sg_2 := Lib.hid (sd_of_own ho OKM.out)
  clear hb ho St_1 HB_1
  obtain ⟨w3, hw⟩ : ∃ W : World, W = (w2.alloc (.cells #[.slice Ag ms.length cg, .int .i64 rb] 25)) := ⟨_, rfl⟩
  have hb : Below w2.heap.size w2 w3 := by rw [hw]; exact ((Below.refl _ _).alloc (by first | exact Nat.le_refl _ | (simp; done) | (simp; omega)) _)
  have St_3 := Lib.hid ((St_2.out.below hb).call hb.size)
  have Sg_3 := Lib.hid ((Sg_2.out.below hb).call hb.size)
  have HB_3 : Hid (Below w.heap.size w w3) := Lib.hid (HB_2.out.trans (hb.mono HB_2.out.size))
  have bg_3 : w3.cell? ⟨w2.heap.size, 0, none⟩ = some (.slice Ag ms.length cg) := by rw [hw]; simp [go_sem]
  have vg_3 : w3.cell? ⟨w2.heap.size, 1, none⟩ = some (.int .i64 rb) := by rw [hw]; simp [go_sem]
  have lf_bg : (w2.alloc (.cells #[.slice Ag ms.length cg, .int .i64 rb] 25)).cell? ⟨w2.heap.size, 0, none⟩ = some (.slice Ag ms.length cg) := by rw [← hw]; exact bg_3
  have lf_vg : (w2.alloc (.cells #[.slice Ag ms.length cg, .int .i64 rb] 25)).cell? ⟨w2.heap.size, 1, none⟩ = some (.int .i64 rb) := by rw [← hw]; exact vg_3
  have HW3 : Hid ((w2.alloc (.cells #[.slice Ag ms.length cg, .int .i64 rb] 25)) = w3) := Lib.hid hw.symm
  clear hb hw St_2 Sg_2 HB_2
  go_wp2_with fail
  rw [HW3.out]
  clear lf_bg lf_vg
  refine (HSP.out _ _ _ _ St_3.out).mono ?_
  rintro e w4 ⟨Aw, cw, rfl, ho, hb⟩
  have bg_4 := keep1 hb bg_3
  have vg_4 := keep1 hb vg_3
  have St_4 := Lib.hid ((St_3.out.below hb).call hb.size)
  have Sg_4 := Lib.hid ((Sg_3.out.below hb).call hb.size)
  have HB_4 : Hid (Below w.heap.size w w4) := Lib.hid (HB_3.out.trans (hb.mono HB_3.out.size))
  have Sw_4 := Lib.hid (sd_of_own ho OKM.out)
  clear hb ho bg_3 vg_3 St_3 Sg_3 HB_3
  obtain ⟨w5, hw⟩ : ∃ W : World, W = (w4.alloc (.cells #[.slice Aw ms.length cw, .int .i64 rb] 25)) := ⟨_, rfl⟩
  have hb : Below w4.heap.size w4 w5 := by rw [hw]; exact ((Below.refl _ _).alloc (by first | exact Nat.le_refl _ | (simp; done) | (simp; omega)) _)
  have bg_5 := keep1 hb bg_4
  have vg_5 := keep1 hb vg_4
  have St_5 := Lib.hid ((St_4.out.below hb).call hb.size)
  have Sg_5 := Lib.hid ((Sg_4.out.below hb).call hb.size)
  have Sw_5 := Lib.hid ((Sw_4.out.below hb).call hb.size)
  have HB_5 : Hid (Below w.heap.size w w5) := Lib.hid (HB_4.out.trans (hb.mono HB_4.out.size))
  have bw_5 : w5.cell? ⟨w4.heap.size, 0, none⟩ = some (.slice Aw ms.length cw) := by rw [hw]; simp [go_sem]
  have vw_5 : w5.cell? ⟨w4.heap.size, 1, none⟩ = some (.int .i64 rb) := by rw [hw]; simp [go_sem]
  have lf_bg : (w4.alloc (.cells #[.slice Aw ms.length cw, .int .i64 rb] 25)).cell? ⟨w2.heap.size, 0, none⟩ = some (.slice Ag ms.length cg) := by rw [← hw]; exact bg_5
  have lf_vg : (w4.alloc (.cells #[.slice Aw ms.length cw, .int .i64 rb] 25)).cell? ⟨w2.heap.size, 1, none⟩ = some (.int .i64 rb) := by rw [← hw]; exact vg_5
  have lf_bw : (w4.alloc (.cells #[.slice Aw ms.length cw, .int .i64 rb] 25)).cell? ⟨w4.heap.size, 0, none⟩ = some (.slice Aw ms.length cw) := by rw [← hw]; exact bw_5
  have lf_vw : (w4.alloc (.cells #[.slice Aw ms.length cw, .int .i64 rb] 25)).cell? ⟨w4.heap.size, 1, none⟩ = some (.int .i64 rb) := by rw [← hw]; exact vw_5
  have HW5 : Hid ((w4.alloc (.cells #[.slice Aw ms.length cw, .int .i64 rb] 25)) = w5) := Lib.hid hw.symm
  clear hb hw bg_4 vg_4 St_4 Sg_4 Sw_4 HB_4
  go_wp2_with fail
  rw [HW5.out]
  clear lf_bg lf_vg lf_bw lf_vw
  refine (equalFlag_any ms rb _ _ _ _ _ _ _ Sg_5.out Sw_5.out).mono ?_
  rintro e w6 ⟨rfl, hb⟩
  have bg_6 := keep1 hb bg_5
  have vg_6 := keep1 hb vg_5
  have bw_6 := keep1 hb bw_5
  have vw_6 := keep1 hb vw_5
  have St_6 := Lib.hid ((St_5.out.below hb).call hb.size)
  have Sg_6 := Lib.hid ((Sg_5.out.below hb).call hb.size)
  have Sw_6 := Lib.hid ((Sw_5.out.below hb).call hb.size)
  have HB_6 : Hid (Below w.heap.size w w6) := Lib.hid (HB_5.out.trans (hb.mono HB_5.out.size))
  clear hb  bg_5 vg_5 bw_5 vw_5 St_5 Sg_5 Sw_5 HB_5
  cases ok
  · skip
    go_wp2_with fail
    refine (equalFlag_any ms rb _ _ _ _ _ _ _ Sg_6.out Sw_6.out).mono ?_
    rintro e w7 ⟨rfl, hb⟩
    have bg_7 := keep1 hb bg_6
    have vg_7 := keep1 hb vg_6
    have bw_7 := keep1 hb bw_6
    have vw_7 := keep1 hb vw_6
    have St_7 := Lib.hid ((St_6.out.below hb).call hb.size)
    have Sg_7 := Lib.hid ((Sg_6.out.below hb).call hb.size)
    have Sw_7 := Lib.hid ((Sw_6.out.below hb).call hb.size)
    have HB_7 : Hid (Below w.heap.size w w7) := Lib.hid (HB_6.out.trans (hb.mono HB_6.out.size))
    clear hb  bg_6 vg_6 bw_6 vw_6 St_6 Sg_6 Sw_6 HB_6
    go_wp2
    go_ret
    exact ⟨by first | rfl | kernel_rfl | (go_simp; done), HB_7.out⟩
  have HF := Lib.hid (HFIT.out rfl).1
  have hrb := (HFIT.out rfl).2
  subst hrb
  have HVE := Lib.hid HF.out.ve
  clear HIM HSP HFIT
  clear Sw_6
  clear bw_6
  clear vw_6
  go_wp2_with fail
  go_loopw [9] (fun i wr => ∃ (k : Nat), k ≤ ts.length ∧ i = .int .i64 k ∧ Hid (Below w.heap.size w wr) ∧ Hid (wr.cell? ⟨w2.heap.size, 0, none⟩ = some (.slice Ag ms.length cg)) ∧ Hid (wr.cell? ⟨w2.heap.size, 1, none⟩ = some (.int .i64 rb)) ∧ Hid (ST wr wr.heap.size At ts.length ct ts) ∧ Hid (SD wr wr.heap.size Ag ms.length cg ms)) (fun i _ => ts.length - (intOf i).toNat)
  case atStart => exact ⟨0, Nat.zero_le _, rfl, HB_6, Lib.hid bg_6, Lib.hid vg_6, St_6, Sg_6⟩
  case round =>
    obtain ⟨k, hk, rfl, hbel, hca, hcv, hst, hsg⟩ := hrel
    clear bg_6 vg_6 HB_6 St_6 Sg_6
    have y1 := hca.out
    have y2 := hcv.out
    clear hca hcv
    by_cases hlt : k < ts.length
    · have hltm : k < ms.length := by have := HF.out.len; omega
      obtain ⟨b, o, hA, hbb, x1, x2⟩ := hsg.out.at_ hltm
      subst hA
      obtain ⟨b2, o2, hA2, hbb2, z1, z2, z3⟩ := hst.out.at_ hlt
      subst hA2
      rw [HF.out.name k hltm hlt] at x1
      have hval := HF.out.val k hltm hlt
      have hup := HF.out.up k hltm hlt
      have hone := HF.out.one k hltm hlt
      have hi1 : (k : Int) < (ts.length : Int) := by omega
      have hi2 : (k : Int) < (ms.length : Int) := by omega
      have hi0 : (0 : Int) ≤ (k : Int) := by omega
      generalize ts[k].name = nm at *
      generalize ts[k].val = vl at *
      generalize hvk : ms[k].val = vk at *
      generalize ts[k].auto = au at *
      clear hvk
      obtain ⟨w40, hwn⟩ : ∃ W : World, W = wr := ⟨_, rfl⟩
      subst hwn
      have HB_40 := hbel
      have bg_40 := y1
      have vg_40 := y2
      have St_40 := hst
      have Sg_40 := hsg
      have x1_40 := x1
      have x2_40 := x2
      have z1_40 := z1
      have z2_40 := z2
      have z3_40 := z3
      clear hbel y1 y2 hst hsg x1 x2 z1 z2 z3
      have k1 := bg_40
      have k2 := x1_40
      have k3 := x2_40
      obtain ⟨w41, hw⟩ : ∃ W : World, W = (w40.alloc (.cells #[.string nm, .int .i64 vk] 37)) := ⟨_, rfl⟩
      have hb : Below w40.heap.size w40 w41 := by rw [hw]; exact ((Below.refl _ _).alloc (by first | exact Nat.le_refl _ | (simp; done) | (simp; omega)) _)
      have bg_41 := keep1 hb bg_40
      have vg_41 := keep1 hb vg_40
      have x1_41 := keep1 hb x1_40
      have x2_41 := keep1 hb x2_40
      have z1_41 := keep1 hb z1_40
      have z2_41 := keep1 hb z2_40
      have z3_41 := keep1 hb z3_40
      have St_41 := Lib.hid ((St_40.out.below hb).call hb.size)
      have Sg_41 := Lib.hid ((Sg_40.out.below hb).call hb.size)
      have HB_41 : Hid (Below w.heap.size w w41) := Lib.hid (HB_40.out.trans (hb.mono HB_40.out.size))
      have d0_41 : w41.cell? ⟨w40.heap.size, 0, none⟩ = some (.string nm) := by rw [hw]; simp [go_sem]
      have d1_41 : w41.cell? ⟨w40.heap.size, 1, none⟩ = some (.int .i64 vk) := by rw [hw]; simp [go_sem]
      have lf_bg : (w40.alloc (.cells #[.string nm, .int .i64 vk] 37)).cell? ⟨w2.heap.size, 0, none⟩ = some (.slice (some ⟨b, o, none⟩) ms.length cg) := by rw [← hw]; exact bg_41
      have lf_vg : (w40.alloc (.cells #[.string nm, .int .i64 vk] 37)).cell? ⟨w2.heap.size, 1, none⟩ = some (.int .i64 rb) := by rw [← hw]; exact vg_41
      have lf_x1 : (w40.alloc (.cells #[.string nm, .int .i64 vk] 37)).cell? ⟨b, o + k * 2, none⟩ = some (.string nm) := by rw [← hw]; exact x1_41
      have lf_x2 : (w40.alloc (.cells #[.string nm, .int .i64 vk] 37)).cell? ⟨b, o + k * 2 + 1, none⟩ = some (.int .i64 vk) := by rw [← hw]; exact x2_41
      have lf_z1 : (w40.alloc (.cells #[.string nm, .int .i64 vk] 37)).cell? ⟨b2, o2 + k * 3, none⟩ = some (.string nm) := by rw [← hw]; exact z1_41
      have lf_z2 : (w40.alloc (.cells #[.string nm, .int .i64 vk] 37)).cell? ⟨b2, o2 + k * 3 + 1, none⟩ = some (.bool au) := by rw [← hw]; exact z2_41
      have lf_z3 : (w40.alloc (.cells #[.string nm, .int .i64 vk] 37)).cell? ⟨b2, o2 + k * 3 + 2, none⟩ = some (.int .i64 vl) := by rw [← hw]; exact z3_41
      have lf_d0 : (w40.alloc (.cells #[.string nm, .int .i64 vk] 37)).cell? ⟨w40.heap.size, 0, none⟩ = some (.string nm) := by rw [← hw]; exact d0_41
      have lf_d1 : (w40.alloc (.cells #[.string nm, .int .i64 vk] 37)).cell? ⟨w40.heap.size, 1, none⟩ = some (.int .i64 vk) := by rw [← hw]; exact d1_41
      have HW41 : Hid ((w40.alloc (.cells #[.string nm, .int .i64 vk] 37)) = w41) := Lib.hid hw.symm
      clear hb hw bg_40 vg_40 x1_40 x2_40 z1_40 z2_40 z3_40 St_40 Sg_40 HB_40
      cases au
      · obtain rfl : vk = vl := hval rfl
        clear hup hone hval
        go_wp2
        rw [HW41.out]
        clear lf_bg lf_vg lf_x1 lf_x2 lf_z1 lf_z2 lf_z3 lf_d0 lf_d1 k1 k2 k3
        go_quiet (fail)
        obtain ⟨w42, hwn⟩ : ∃ W : World, w41.drewN nq = W := ⟨_, rfl⟩
        have hb : Below w41.heap.size w41 w42 := by rw [← hwn]; exact below_drewN (Below.refl _ _) nq
        rw [hwn]
        have bg_42 := keep1 hb bg_41
        have vg_42 := keep1 hb vg_41
        have x1_42 := keep1 hb x1_41
        have x2_42 := keep1 hb x2_41
        have z1_42 := keep1 hb z1_41
        have z2_42 := keep1 hb z2_41
        have z3_42 := keep1 hb z3_41
        have d0_42 := keep1 hb d0_41
        have d1_42 := keep1 hb d1_41
        have St_42 := Lib.hid ((St_41.out.below hb).call hb.size)
        have Sg_42 := Lib.hid ((Sg_41.out.below hb).call hb.size)
        have HB_42 : Hid (Below w.heap.size w w42) := Lib.hid (HB_41.out.trans (hb.mono HB_41.out.size))
        clear hb hwn bg_41 vg_41 x1_41 x2_41 z1_41 z2_41 z3_41 d0_41 d1_41 St_41 Sg_41 HB_41
        go_wp2
        go_loopw [11] (fun i wq => i = .int .i64 0 ∧ wq = w42) (fun i _ => 0)
        case atStart => exact ⟨rfl, rfl⟩
        case round =>
          obtain ⟨rfl, rfl⟩ := hrel
          go_wp2
          all_goals
            go_roundw
            case rel => exact ⟨k + 1, by omega, by go_num, HB_42, Lib.hid bg_42, Lib.hid vg_42, St_42, Sg_42⟩
            case measure => simp [intOf]; omega
      · obtain ⟨x, hx, hcn⟩ := hone rfl
        subst hx
        have HUP := Lib.hid (hup rfl)
        have HCN := Lib.hid hcn
        clear hup hone hval hcn
        go_wp2_with fail
        rw [HW41.out]
        clear lf_bg lf_vg lf_x1 lf_x2 lf_z1 lf_z2 lf_z3 lf_d0 lf_d1 k1 k2 k3
        refine wp_region_held_drew (S := (fun w' => w'.cell? ⟨w2.heap.size, 0, none⟩ = some (.slice (some ⟨b, o, none⟩) ms.length cg) ∧ w'.cell? ⟨w2.heap.size, 1, none⟩ = some (.int .i64 rb) ∧ w'.cell? ⟨w40.heap.size, 0, none⟩ = some (.string nm) ∧ w'.cell? ⟨w40.heap.size, 1, none⟩ = some (.int .i64 x) ∧ w'.cell? ⟨b2, o2 + k * 3, none⟩ = some (.string nm) ∧ w'.cell? ⟨b2, o2 + k * 3 + 1, none⟩ = some (.bool true))) (by kernel_rfl) ⟨bg_41, vg_41, d0_41, d1_41, z1_41, z2_41⟩ (fun hHeld => ?_)
        refine wpAnyH_take (i := 0) (v := ?_) rfl (by kernel_rfl) (by kernel_rfl) (by kernel_rfl) (fun _ _ _ h => h) (Or.inl ⟨by kernel_rfl, ?_⟩) hHeld ?_
        rotate_left
        · intro wz hSw
          try dsimp only at hSw
          first
          | (go_simp; done)
          | (go_simp; with_reducible rfl)
        try simp only [Act.put, List.setIfInBounds_toArray, List.set_cons_zero, List.set_cons_succ]
        refine wpAnyH_take (i := 1) (v := ?_) rfl (by kernel_rfl) (by kernel_rfl) (by kernel_rfl) (fun _ _ _ h => h) (Or.inl ⟨by kernel_rfl, ?_⟩) hHeld ?_
        rotate_left
        · intro wz hSw
          try dsimp only at hSw
          first
          | (go_simp; done)
          | (go_simp; with_reducible rfl)
        try simp only [Act.put, List.setIfInBounds_toArray, List.set_cons_zero, List.set_cons_succ]
        refine wpAnyH_take (i := 2) (v := ?_) rfl (by kernel_rfl) (by kernel_rfl) (by kernel_rfl) (fun _ _ _ h => h) (Or.inl ⟨by kernel_rfl, ?_⟩) hHeld ?_
        rotate_left
        · intro wz hSw
          try dsimp only at hSw
          first
          | (go_simp; done)
          | (go_simp; with_reducible rfl)
        try simp only [Act.put, List.setIfInBounds_toArray, List.set_cons_zero, List.set_cons_succ]
        refine wpAnyH_take (i := 3) (v := ?_) rfl (by kernel_rfl) (by kernel_rfl) (by kernel_rfl) (fun _ _ _ h => h) (Or.inl ⟨by kernel_rfl, ?_⟩) hHeld ?_
        rotate_left
        · intro wz hSw
          try dsimp only at hSw
          first
          | (go_simp; done)
          | (go_simp; with_reducible rfl)
        try simp only [Act.put, List.setIfInBounds_toArray, List.set_cons_zero, List.set_cons_succ]
        refine wpAnyH_take (i := 4) (v := ?_) rfl (by kernel_rfl) (by kernel_rfl) (by kernel_rfl) (fun _ _ _ h => h) (Or.inl ⟨by kernel_rfl, ?_⟩) hHeld ?_
        rotate_left
        · intro wz hSw
          try dsimp only at hSw
          first
          | (go_simp; done)
          | (go_simp; with_reducible rfl)
        try simp only [Act.put, List.setIfInBounds_toArray, List.set_cons_zero, List.set_cons_succ]
        refine wpAnyH_take (i := 5) (v := ?_) rfl (by kernel_rfl) (by kernel_rfl) (by kernel_rfl) (fun _ _ _ h => h) (Or.inl ⟨by kernel_rfl, ?_⟩) hHeld ?_
        rotate_left
        · intro wz hSw
          try dsimp only at hSw
          first
          | (go_simp; done)
          | (go_simp; with_reducible rfl)
        try simp only [Act.put, List.setIfInBounds_toArray, List.set_cons_zero, List.set_cons_succ]
        refine wpAnyH_take (i := 6) (v := ?_) rfl (by kernel_rfl) (by kernel_rfl) (by kernel_rfl) (fun _ _ _ h => h) (Or.inl ⟨by kernel_rfl, ?_⟩) hHeld ?_
        rotate_left
        · intro wz hSw
          try dsimp only at hSw
          first
          | (go_simp; done)
          | (go_simp; with_reducible rfl)
        try simp only [Act.put, List.setIfInBounds_toArray, List.set_cons_zero, List.set_cons_succ]
        refine wpAnyH_take (i := 7) (v := ?_) rfl (by kernel_rfl) (by kernel_rfl) (by kernel_rfl) (fun _ _ _ h => h) (Or.inl ⟨by kernel_rfl, ?_⟩) hHeld ?_
        rotate_left
        · intro wz hSw
          try dsimp only at hSw
          first
          | (go_simp; done)
          | (go_simp; with_reducible rfl)
        try simp only [Act.put, List.setIfInBounds_toArray, List.set_cons_zero, List.set_cons_succ]
        refine wpAnyH_take (i := 8) (v := ?_) rfl (by kernel_rfl) (by kernel_rfl) (by kernel_rfl) (fun _ _ _ h => h) (Or.inl ⟨by kernel_rfl, ?_⟩) hHeld ?_
        rotate_left
        · intro wz hSw
          try dsimp only at hSw
          first
          | (go_simp; done)
          | (go_simp; with_reducible rfl)
        try simp only [Act.put, List.setIfInBounds_toArray, List.set_cons_zero, List.set_cons_succ]
        refine wpAnyH_take (i := 9) (v := ?_) rfl (by kernel_rfl) (by kernel_rfl) (by kernel_rfl) (fun _ _ _ h => h) (Or.inl ⟨by kernel_rfl, ?_⟩) hHeld ?_
        rotate_left
        · intro wz hSw
          try dsimp only at hSw
          first
          | (go_simp; done)
          | (go_simp; with_reducible rfl)
        try simp only [Act.put, List.setIfInBounds_toArray, List.set_cons_zero, List.set_cons_succ]
        refine wpAnyH_take (i := 10) (v := ?_) rfl (by kernel_rfl) (by kernel_rfl) (by kernel_rfl) (fun _ _ _ h => h) (Or.inl ⟨by kernel_rfl, ?_⟩) hHeld ?_
        rotate_left
        · intro wz hSw
          try dsimp only at hSw
          first
          | (go_simp; done)
          | (go_simp; with_reducible rfl)
        try simp only [Act.put, List.setIfInBounds_toArray, List.set_cons_zero, List.set_cons_succ]
        refine wpAnyH_take (i := 11) (v := ?_) rfl (by kernel_rfl) (by kernel_rfl) (by kernel_rfl) (fun _ _ _ h => h) (Or.inl ⟨by kernel_rfl, ?_⟩) hHeld ?_
        rotate_left
        · intro wz hSw
          try dsimp only at hSw
          first
          | (go_simp; done)
          | (go_simp; with_reducible rfl)
        try simp only [Act.put, List.setIfInBounds_toArray, List.set_cons_zero, List.set_cons_succ]
        refine wpAnyH_take (i := 12) (v := ?_) rfl (by kernel_rfl) (by kernel_rfl) (by kernel_rfl) (fun _ _ _ h => h) (Or.inl ⟨by kernel_rfl, ?_⟩) hHeld ?_
        rotate_left
        · intro wz hSw
          try dsimp only at hSw
          first
          | (go_simp; done)
          | (go_simp; with_reducible rfl)
        try simp only [Act.put, List.setIfInBounds_toArray, List.set_cons_zero, List.set_cons_succ]
        refine wpAnyH_take (i := 13) (v := ?_) rfl (by kernel_rfl) (by kernel_rfl) (by kernel_rfl) (fun _ _ _ h => h) (Or.inl ⟨by kernel_rfl, ?_⟩) hHeld ?_
        rotate_left
        · intro wz hSw
          try dsimp only at hSw
          first
          | (go_simp; done)
          | (go_simp; with_reducible rfl)
        try simp only [Act.put, List.setIfInBounds_toArray, List.set_cons_zero, List.set_cons_succ]
        refine wpAnyH_take (i := 14) (v := ?_) rfl (by kernel_rfl) (by kernel_rfl) (by kernel_rfl) (fun _ _ _ h => h) (Or.inl ⟨by kernel_rfl, ?_⟩) hHeld ?_
        rotate_left
        · intro wz hSw
          try dsimp only at hSw
          first
          | (go_simp; done)
          | (go_simp; with_reducible rfl)
        try simp only [Act.put, List.setIfInBounds_toArray, List.set_cons_zero, List.set_cons_succ]
        refine wpAnyH_take (i := 15) (v := ?_) rfl (by kernel_rfl) (by kernel_rfl) (by kernel_rfl) (fun _ _ _ h => h) (Or.inl ⟨by kernel_rfl, ?_⟩) hHeld ?_
        rotate_left
        · intro wz hSw
          try dsimp only at hSw
          first
          | (go_simp; done)
          | (go_simp; with_reducible rfl)
        try simp only [Act.put, List.setIfInBounds_toArray, List.set_cons_zero, List.set_cons_succ]
        refine wpAnyH_take (i := 16) (v := undef) rfl (by kernel_rfl) (by kernel_rfl) (by kernel_rfl) (fun _ _ _ h => h) (Or.inr ⟨by kernel_rfl, rfl⟩) hHeld ?_
        try simp only [Act.put, List.setIfInBounds_toArray, List.set_cons_zero, List.set_cons_succ]
        refine wpAnyH_take (i := 17) (v := undef) rfl (by kernel_rfl) (by kernel_rfl) (by kernel_rfl) (fun _ _ _ h => h) (Or.inr ⟨by kernel_rfl, rfl⟩) hHeld ?_
        try simp only [Act.put, List.setIfInBounds_toArray, List.set_cons_zero, List.set_cons_succ]
        refine wpAnyH_take (i := 18) (v := undef) rfl (by kernel_rfl) (by kernel_rfl) (by kernel_rfl) (fun _ _ _ h => h) (Or.inr ⟨by kernel_rfl, rfl⟩) hHeld ?_
        try simp only [Act.put, List.setIfInBounds_toArray, List.set_cons_zero, List.set_cons_succ]
        refine wpAnyH_take (i := 19) (v := undef) rfl (by kernel_rfl) (by kernel_rfl) (by kernel_rfl) (fun _ _ _ h => h) (Or.inr ⟨by kernel_rfl, rfl⟩) hHeld ?_
        try simp only [Act.put, List.setIfInBounds_toArray, List.set_cons_zero, List.set_cons_succ]
        refine wpAnyH_take (i := 20) (v := undef) rfl (by kernel_rfl) (by kernel_rfl) (by kernel_rfl) (fun _ _ _ h => h) (Or.inr ⟨by kernel_rfl, rfl⟩) hHeld ?_
        try simp only [Act.put, List.setIfInBounds_toArray, List.set_cons_zero, List.set_cons_succ]
        refine wpAnyH_take (i := 21) (v := undef) rfl (by kernel_rfl) (by kernel_rfl) (by kernel_rfl) (fun _ _ _ h => h) (Or.inr ⟨by kernel_rfl, rfl⟩) hHeld ?_
        try simp only [Act.put, List.setIfInBounds_toArray, List.set_cons_zero, List.set_cons_succ]
        refine wpAnyH_take (i := 22) (v := undef) rfl (by kernel_rfl) (by kernel_rfl) (by kernel_rfl) (fun _ _ _ h => h) (Or.inr ⟨by kernel_rfl, rfl⟩) hHeld ?_
        try simp only [Act.put, List.setIfInBounds_toArray, List.set_cons_zero, List.set_cons_succ]
        refine wpAnyH_take (i := 23) (v := undef) rfl (by kernel_rfl) (by kernel_rfl) (by kernel_rfl) (fun _ _ _ h => h) (Or.inr ⟨by kernel_rfl, rfl⟩) hHeld ?_
        try simp only [Act.put, List.setIfInBounds_toArray, List.set_cons_zero, List.set_cons_succ]
        refine wpAnyH_take (i := 24) (v := ?_) rfl (by kernel_rfl) (by kernel_rfl) (by kernel_rfl) (fun _ _ _ h => h) (Or.inl ⟨by kernel_rfl, ?_⟩) hHeld ?_
        rotate_left
        · intro wz hSw
          try dsimp only at hSw
          first
          | (go_simp; done)
          | (go_simp; with_reducible rfl)
        try simp only [Act.put, List.setIfInBounds_toArray, List.set_cons_zero, List.set_cons_succ]
        refine wpAnyH_take (i := 25) (v := ?_) rfl (by kernel_rfl) (by kernel_rfl) (by kernel_rfl) (fun _ _ _ h => h) (Or.inl ⟨by kernel_rfl, ?_⟩) hHeld ?_
        rotate_left
        · intro wz hSw
          try dsimp only at hSw
          first
          | (go_simp; done)
          | (go_simp; with_reducible rfl)
        try simp only [Act.put, List.setIfInBounds_toArray, List.set_cons_zero, List.set_cons_succ]
        refine wpAnyH_take (i := 26) (v := ?_) rfl (by kernel_rfl) (by kernel_rfl) (by kernel_rfl) (fun _ _ _ h => h) (Or.inl ⟨by kernel_rfl, ?_⟩) hHeld ?_
        rotate_left
        · intro wz hSw
          try dsimp only at hSw
          first
          | (go_simp; done)
          | (go_simp; with_reducible rfl)
        try simp only [Act.put, List.setIfInBounds_toArray, List.set_cons_zero, List.set_cons_succ]
        refine wpAnyH_take (i := 27) (v := ?_) rfl (by kernel_rfl) (by kernel_rfl) (by kernel_rfl) (fun _ _ _ h => h) (Or.inl ⟨by kernel_rfl, ?_⟩) hHeld ?_
        rotate_left
        · intro wz hSw
          try dsimp only at hSw
          first
          | (go_simp; done)
          | (go_simp; with_reducible rfl)
        try simp only [Act.put, List.setIfInBounds_toArray, List.set_cons_zero, List.set_cons_succ]
        refine wpAnyH_take (i := 28) (v := ?_) rfl (by kernel_rfl) (by kernel_rfl) (by kernel_rfl) (fun _ _ _ h => h) (Or.inl ⟨by kernel_rfl, ?_⟩) hHeld ?_
        rotate_left
        · intro wz hSw
          try dsimp only at hSw
          first
          | (go_simp; done)
          | (go_simp; with_reducible rfl)
        try simp only [Act.put, List.setIfInBounds_toArray, List.set_cons_zero, List.set_cons_succ]
        refine wpAnyH_take (i := 29) (v := ?_) rfl (by kernel_rfl) (by kernel_rfl) (by kernel_rfl) (fun _ _ _ h => h) (Or.inl ⟨by kernel_rfl, ?_⟩) hHeld ?_
        rotate_left
        · intro wz hSw
          try dsimp only at hSw
          first
          | (go_simp; done)
          | (go_simp; with_reducible rfl)
        try simp only [Act.put, List.setIfInBounds_toArray, List.set_cons_zero, List.set_cons_succ]
        refine wpAnyH_take (i := 30) (v := ?_) rfl (by kernel_rfl) (by kernel_rfl) (by kernel_rfl) (fun _ _ _ h => h) (Or.inl ⟨by kernel_rfl, ?_⟩) hHeld ?_
        rotate_left
        · intro wz hSw
          try dsimp only at hSw
          first
          | (go_simp; done)
          | (go_simp; with_reducible rfl)
        try simp only [Act.put, List.setIfInBounds_toArray, List.set_cons_zero, List.set_cons_succ]
        refine wpAnyH_take (i := 31) (v := ?_) rfl (by kernel_rfl) (by kernel_rfl) (by kernel_rfl) (fun _ _ _ h => h) (Or.inl ⟨by kernel_rfl, ?_⟩) hHeld ?_
        rotate_left
        · intro wz hSw
          try dsimp only at hSw
          first
          | (go_simp; done)
          | (go_simp; with_reducible rfl)
        try simp only [Act.put, List.setIfInBounds_toArray, List.set_cons_zero, List.set_cons_succ]
        refine wpAnyH_take (i := 32) (v := ?_) rfl (by kernel_rfl) (by kernel_rfl) (by kernel_rfl) (fun _ _ _ h => h) (Or.inl ⟨by kernel_rfl, ?_⟩) hHeld ?_
        rotate_left
        · intro wz hSw
          try dsimp only at hSw
          first
          | (go_simp; done)
          | (go_simp; with_reducible rfl)
        try simp only [Act.put, List.setIfInBounds_toArray, List.set_cons_zero, List.set_cons_succ]
        refine wpAnyH_take (i := 33) (v := ?_) rfl (by kernel_rfl) (by kernel_rfl) (by kernel_rfl) (fun _ _ _ h => h) (Or.inl ⟨by kernel_rfl, ?_⟩) hHeld ?_
        rotate_left
        · intro wz hSw
          try dsimp only at hSw
          first
          | (go_simp; done)
          | (go_simp; with_reducible rfl)
        try simp only [Act.put, List.setIfInBounds_toArray, List.set_cons_zero, List.set_cons_succ]
        refine wpAnyH_take (i := 35) (v := ?_) rfl (by kernel_rfl) (by kernel_rfl) (by kernel_rfl) (fun _ _ _ h => h) (Or.inl ⟨by kernel_rfl, ?_⟩) hHeld ?_
        rotate_left
        · intro wz hSw
          try dsimp only at hSw
          first
          | (go_simp; done)
          | (go_simp; with_reducible rfl)
        try simp only [Act.put, List.setIfInBounds_toArray, List.set_cons_zero, List.set_cons_succ]
        refine wpAnyH_take (i := 36) (v := ?_) rfl (by kernel_rfl) (by kernel_rfl) (by kernel_rfl) (fun _ _ _ h => h) (Or.inl ⟨by kernel_rfl, ?_⟩) hHeld ?_
        rotate_left
        · intro wz hSw
          try dsimp only at hSw
          first
          | (go_simp; done)
          | (go_simp; with_reducible rfl)
        try simp only [Act.put, List.setIfInBounds_toArray, List.set_cons_zero, List.set_cons_succ]
        refine wpAnyH_ready (rs := [34]) (by kernel_rfl) (by simp) ?_
        refine AllReadyH.cons rfl (fun K hK => ?_) AllReadyH.nil
        go_simp
        refine (kept_any ms rb _ _ _ _ (Sg_41.out.drewN 1) (by omega) HVE.out).mono ?_
        rintro e w42 ⟨Ak, ck, rfl, ho2, hb⟩
        replace hb : Below w41.heap.size w41 w42 := (by first | exact hb | exact undrew hb)
        have bg_42 := keep1 hb bg_41
        have vg_42 := keep1 hb vg_41
        have x1_42 := keep1 hb x1_41
        have x2_42 := keep1 hb x2_41
        have z1_42 := keep1 hb z1_41
        have z2_42 := keep1 hb z2_41
        have z3_42 := keep1 hb z3_41
        have d0_42 := keep1 hb d0_41
        have d1_42 := keep1 hb d1_41
        have St_42 := Lib.hid ((St_41.out.below hb).call hb.size)
        have Sg_42 := Lib.hid ((Sg_41.out.below hb).call hb.size)
        have HB_42 : Hid (Below w.heap.size w w42) := Lib.hid (HB_41.out.trans (hb.mono HB_41.out.size))
        have Sk_42 := Lib.hid (sd_of_own ho2 OKM.out)
        go_simp
        refine hK.out _ _ ⟨bg_42, vg_42, d0_42, d1_42, z1_42, z2_42⟩ (fun hHeld => ?_)
        clear hK K
        try simp only [Act.put, List.setIfInBounds_toArray, List.set_cons_zero, List.set_cons_succ]
        refine wpAnyH_ready (rs := [37]) (by kernel_rfl) (by simp) ?_
        refine AllReadyH.cons rfl (fun K hK => ?_) AllReadyH.nil
        go_simp
        refine (implCount_v ms 3 x _ _ _ _ Sk_42.out (by omega) HCN.out).mono ?_
        rintro e w43 ⟨rfl, hb⟩
        have bg_43 := keep1 hb bg_42
        have vg_43 := keep1 hb vg_42
        have x1_43 := keep1 hb x1_42
        have x2_43 := keep1 hb x2_42
        have z1_43 := keep1 hb z1_42
        have z2_43 := keep1 hb z2_42
        have z3_43 := keep1 hb z3_42
        have d0_43 := keep1 hb d0_42
        have d1_43 := keep1 hb d1_42
        have St_43 := Lib.hid ((St_42.out.below hb).call hb.size)
        have Sg_43 := Lib.hid ((Sg_42.out.below hb).call hb.size)
        have Sk_43 := Lib.hid ((Sk_42.out.below hb).call hb.size)
        have HB_43 : Hid (Below w.heap.size w w43) := Lib.hid (HB_42.out.trans (hb.mono HB_42.out.size))
        go_simp
        refine hK.out _ _ ⟨bg_43, vg_43, d0_43, d1_43, z1_43, z2_43⟩ (fun hHeld => ?_)
        clear hK K
        try simp only [Act.put, List.setIfInBounds_toArray, List.set_cons_zero, List.set_cons_succ]
        refine wpAnyH_take (i := 38) (v := ?_) rfl (by kernel_rfl) (by kernel_rfl) (by kernel_rfl) (fun _ _ _ h => h) (Or.inl ⟨by kernel_rfl, ?_⟩) hHeld ?_
        rotate_left
        · intro wz hSw
          try dsimp only at hSw
          first
          | (go_simp; done)
          | (go_simp; with_reducible rfl)
        try simp only [Act.put, List.setIfInBounds_toArray, List.set_cons_zero, List.set_cons_succ]
        refine wpAnyH_take (i := 39) (v := ?_) rfl (by kernel_rfl) (by kernel_rfl) (by kernel_rfl) (fun _ _ _ h => h) (Or.inl ⟨by kernel_rfl, ?_⟩) hHeld ?_
        rotate_left
        · intro wz hSw
          try dsimp only at hSw
          first
          | (go_simp; done)
          | (go_simp; with_reducible rfl)
        try simp only [Act.put, List.setIfInBounds_toArray, List.set_cons_zero, List.set_cons_succ]
        refine wpAnyH_take (i := 40) (v := ?_) rfl (by kernel_rfl) (by kernel_rfl) (by kernel_rfl) (fun _ _ _ h => h) (Or.inl ⟨by kernel_rfl, ?_⟩) hHeld ?_
        rotate_left
        · intro wz hSw
          try dsimp only at hSw
          first
          | (go_simp; done)
          | (go_simp; with_reducible rfl)
        try simp only [Act.put, List.setIfInBounds_toArray, List.set_cons_zero, List.set_cons_succ]
        refine wpAnyH_done (by kernel_rfl) ?_ _
        try go_simp
        clear ho2
        go_wp2
        go_loopw [11] (fun i wq => ∃ m : Nat, m ≤ k ∧ i = .int .i64 m ∧ Hid (Below w43.heap.size w43 wq)) (fun i _ => k - (intOf i).toNat)
        case atStart => exact ⟨0, Nat.zero_le _, rfl, Lib.hid (Below.refl _ _)⟩
        case round =>
          obtain ⟨m, hm2, rfl, hbq⟩ := hrel
          have q2 := keep1 hbq.out z2_43
          have q1 := keep1 hbq.out d1_43
          have q3 := keep1 hbq.out bg_43
          by_cases hlt2 : m < k
          · obtain ⟨b', o', hA, _, _, q4⟩ := (Sg_43.out.below hbq.out).at_ (show m < ms.length by omega)
            injection hA with hA
            injection hA with hA1 hA2
            subst hA1 hA2
            have hup := HUP.out m hlt2
            generalize ms[m].val = vm at *
            have hj1 : (m : Int) < (k : Int) := by omega
            have hj2 : (m : Int) < (ms.length : Int) := by omega
            have hj0 : (0 : Int) ≤ (m : Int) := by omega
            have hj3 : ¬ (x : Int) ≤ vm := by omega
            go_wp2
            go_quiet (fail)
            go_wp2
            go_roundw
            case rel => exact ⟨m + 1, by omega, by go_num, Lib.hid (below_drewN hbq.out _)⟩
            case measure => simp [intOf]; omega
          · obtain rfl : m = k := by omega
            go_wp2
            go_roundw
            case rel => exact ⟨m + 1, by omega, by go_num, Lib.hid (HB_43.out.trans (hbq.out.mono HB_43.out.size)), Lib.hid q3, Lib.hid (keep1 hbq.out vg_43), Lib.hid ((St_43.out.below hbq.out).call hbq.out.size), Lib.hid ((Sg_43.out.below hbq.out).call hbq.out.size)⟩
            case measure => simp [intOf]; omega
    · obtain rfl : k = ts.length := by omega
      obtain ⟨w40, hwn⟩ : ∃ W : World, W = wr := ⟨_, rfl⟩
      subst hwn
      have HB_40 := hbel
      have bg_40 := y1
      have vg_40 := y2
      have St_40 := hst
      have Sg_40 := hsg
      clear hbel y1 y2 hst hsg
      go_wp2_with fail
      refine (implVF_v ms rb _ _ _ _ Sg_40.out (by omega) HVE.out).mono ?_
      rintro e w41 ⟨rfl, hb⟩
      have bg_41 := keep1 hb bg_40
      have vg_41 := keep1 hb vg_40
      have St_41 := Lib.hid ((St_40.out.below hb).call hb.size)
      have Sg_41 := Lib.hid ((Sg_40.out.below hb).call hb.size)
      have HB_41 : Hid (Below w.heap.size w w41) := Lib.hid (HB_40.out.trans (hb.mono HB_40.out.size))
      clear hb  bg_40 vg_40 St_40 Sg_40 HB_40
      go_wp2
      go_ret
      exact ⟨by first | rfl | kernel_rfl | (go_simp; done), HB_41.out⟩

theorem lifted (os : Os) (started : os.Started) (H : Type) (enc : TypeId × Value → H) :
    ReturnsInHanded {} Try.checked os 4 .any (Rows.fnBuildFlagSpec.pre6 enc Try.prog Try.f4 Rows.fnBuildFlagRow.domain false) (Rows.fnBuildFlagSpec.post enc Try.prog Try.f4 false true false false) := by
  refine returnsInHanded_of_change (C := Try.checked) own started (by kernel_rfl) Try.func4
    (ChangeSpec.witness6 (enc := enc) (C := Try.checked) false ⟨#[], #[.slice none 0 0], []⟩ 8 (by kernel_rfl) (by kernel_rfl) (by kernel_rfl) (by kernel_rfl)) ?_
  intro W base args ds gs before hval0 hW hcnd _
  have hval : ∀ (j : Nat) t v, Try.f4.params[j]? = some t → args[j]? = some v → Value.okWide Try.prog W .any base t v := hval0
  have hW' := hW
  obtain ⟨p, q, hA0, hV, rfl, hfz, hnd⟩ := hW
  have hA : DataW.TrodAll enc Try.prog W 0 (fun _ => true) true Try.f4.params.toList args.toList ds p := hA0
  rw [Try.params4] at hA hval
  obtain ⟨v0, vs0, d0, ds0, p0, q0, hargs, rfl, rfl, h0, r0⟩ := trodAll_cons hA
  obtain ⟨rfl, rfl, rfl⟩ := trodAll_nil r0
  obtain rfl : args = #[v0] := by cases args; simp_all
  obtain ⟨rfl, rfl⟩ := trodVars_none hV
  have k0 := h0
  have lt0 : ∀ x ∈ p0, x.block < W.heap.size := by obtain ⟨m, hm⟩ := k0; exact DataW.trod_lt m _ _ _ hm
  obtain ⟨A0, n0, c0, l0, rfl, w0⟩ := open_code (hval 0 22 v0 rfl rfl) h0
  clear hA0 hval0
  refine (walk A0 n0 c0 l0 W w0).mono fun e W' ⟨he, bel⟩ => ?_
  subst he
  exact ⟨_, rfl, _, _, _, [], _, [], hW', trodAll_mk1 (shut_bool Try.underlying4 _), (trodAll_cons_mk (Below.trod laidOut (by kernel_rfl) (of_decide_eq_true (by kernel_rfl)) k0 bel lt0) trodAll_mk0), rfl, bel.frame _, fun h => by cases h⟩

theorem over : Rows.fnBuildFlagRow.holds Try.pinned (OpenSpec.ofChange Rows.fnBuildFlagSpec) :=
  OpenClaim.holds_of_wide 4 Try.f4 rfl rfl rfl rfl rfl rfl rfl ⟨rfl, rfl, rfl, rfl, rfl⟩ rfl rfl rfl rfl rfl (by kernel_rfl) Try.func4 (by kernel_rfl)
    (of_decide_eq_true (by kernel_rfl)) (by unfold Func.isWrapper; first | (rw [if_pos (by decide +kernel)]; kernel_rfl) | (rw [if_neg (by decide +kernel)]; exact ⟨rfl, rfl⟩))
    (fun os started H enc _ => lifted os started H enc)

theorem proved : Rows.FnBuildFlagSaid := over
end Go.Proofs.Ytbkfagncoekbkaa.fnBuildFlag
