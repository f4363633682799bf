import Derived.Test.YteaiaglangmhbaaDoorSortB
import Derived.Test.YteaiaglangmhbaaDoorBaseC
import Derived.Test.YteaiaglangmhbaaDoorBaseB
namespace Go.Proofs.YteaiaglangmhbaaDoor
open Go.RowKit
set_option linter.unusedVariables false
set_option maxRecDepth 100000

set_option maxHeartbeats 4000000 in
theorem stable_any (ds : List D) (hok : ∀ x ∈ ds, x.ok) (hl : ds.length ≤ 12) (A : Option Addr) (c base : Nat) (w : World) (ho : w.ownsRow base 53 2 (.slice A ds.length c) ds.length (flat ds)) (hbase : base ≤ w.heap.size) :
    Calls Tryd.prog 79 #[.slice A ds.length c, .int .i64 ds.length, .func (.func 48) #[] #[]] w fun e w' => e = .returned (.tuple #[]) ∧ w'.ownsRow base 53 2 (.slice A ds.length c) ds.length (flat (srt ds)) ∧ Below base w w' := by
  have HI := Lib.hid (insSort_any ds hok hl A c base w ho hbase)
  have h20 : ¬ ((20 : Int) ≤ (ds.length : Int)) := by omega
  have h21 : ¬ ((20 : Int) < (ds.length : Int)) := by omega
  clear ho
  go_enter Tryd.func79, Tryd.ntmps79
  go_wp2
  go_loopw [7, 8] (fun a b wr => a = .int .i64 0 ∧ b = .int .i64 20 ∧ Hid (wr = w)) (fun _ _ _ => 0)
  case atStart => exact ⟨rfl, rfl, Lib.hid rfl⟩
  case round =>
    obtain ⟨rfl, rfl, hw⟩ := hrel
    obtain rfl := hw.out
    go_wp2_with (go_at_call 92; refine HI.out.mono ?_; rintro e w2 ⟨rfl, ho2, hb2⟩; have HO2 := Lib.hid ho2; have HB2 := Lib.hid hb2; clear ho2 hb2)
    rename World => w3
    go_loopw [6] (fun a wq => a = .int .i64 20 ∧ Hid (wq = w3)) (fun _ _ => 0)
    case atStart => exact ⟨rfl, Lib.hid rfl⟩
    case round =>
      obtain ⟨rfl, hw2⟩ := hrel
      obtain rfl := hw2.out
      go_wp2
      exact bodyPost_end (v := .tuple #[]) (by simp [results, Tryd.results79, go_sem]) rfl ⟨rfl, HO2.out, HB2.out⟩

set_option maxHeartbeats 4000000 in
theorem sortStable_any (ds : List D) (hok : ∀ x ∈ ds, x.ok) (hl : ds.length ≤ 12) (A : Option Addr) (c base : Nat) (w : World) (ho : w.ownsRow base 53 2 (.slice A ds.length c) ds.length (flat ds)) (hbase : base ≤ w.heap.size) :
    Calls Tryd.prog 47 #[.slice A ds.length c, .func (.func 48) #[] #[]] w fun e w' => e = .returned (.tuple #[]) ∧ w'.ownsRow base 53 2 (.slice A ds.length c) ds.length (flat (srt ds)) ∧ Below base w w' := by
  have HI := Lib.hid (stable_any ds hok hl A c base w ho hbase)
  clear ho
  go_enter Tryd.func47, Tryd.ntmps47
  go_wp2_with (go_at_call 79; refine HI.out.mono ?_; rintro e w2 ⟨rfl, ho2, hb2⟩)
  exact bodyPost_end (v := .tuple #[]) (by simp [results, Tryd.results47, go_sem]) rfl ⟨rfl, ho2, hb2⟩

def mSort (ds : List D) : List D := if vEnum ds then srt ds else []
theorem mSort_len (ds : List D) : (mSort ds).length ≤ 12 := by
  unfold mSort
  cases h : vEnum ds
  · exact Nat.zero_le _
  · have := vEnum_len h; simp only [if_true]; rw [srt_length]; exact this
theorem mSort_mem {ds : List D} {x : D} (h : x ∈ mSort ds) : x ∈ ds := by
  unfold mSort at h
  split at h
  · exact srt_mem.1 h
  · cases h
set_option maxHeartbeats 16000000 in
theorem implSort_any (ds : List D) (A : Option Addr) (n c : Nat) (w : World) (ha : SD w w.heap.size A n c ds) :
    Calls Tryd.prog 20 #[.agg #[.slice A n c]] w (EnumE (mSort ds) w) := by
  obtain ⟨W0, hW0⟩ : ∃ W0 : World, W0 = (w.alloc (.cells #[.slice A n c] 28)).alloc (.cells #[.slice none 0 0] 28) := ⟨_, rfl⟩
  have hb0 : Below w.heap.size w W0 := by rw [hW0]; exact ((Below.refl _ _).alloc (Nat.le_refl _) _).alloc (by simp) _
  have HC0 : Hid (Cl W0 w.heap.size (.slice A n c)) := Lib.hid (by rw [hW0]; exact ⟨by simp [go_sem], by simp [go_sem]⟩)
  have HC2 : Hid (Cl W0 (w.heap.size + 1) (.slice none 0 0)) := Lib.hid (by rw [hW0]; exact ⟨by simp [go_sem], by simp [go_sem]⟩)
  have HZ0 : Hid (w.heap.size + 2 ≤ W0.heap.size) := Lib.hid (by rw [hW0]; simp)
  have HB0 := Lib.hid hb0
  have HRA := Lib.hid ((ha.below hb0).call hb0.size)
  have HLA := Lib.hid ha.len
  have HOA := Lib.hid ha.ok
  have HW0 := Lib.hid hW0.symm
  clear ha hb0 hW0
  cases hv : vEnum ds
  · have HV := Lib.hid hv
    have HM : Hid (mSort ds = []) := Lib.hid (by unfold mSort; rw [hv]; rfl)
    clear hv
    go_enter Tryd.func20, Tryd.ntmps20
    go_wp2_with fail
    rw [HW0.out]
    refine (implVE_v ds _ _ _ _ HRA.out HV.out).mono ?_
    rintro e1 w1 ⟨rfl, hb⟩
    have HB1 := Lib.hid (HB0.out.trans (hb.mono HB0.out.size))
    obtain ⟨x2, y2⟩ := HC2.out.below hb
    clear hb
    go_wp2
    rw [HM.out]
    exact bodyPost_ret (v := .agg #[.slice none 0 0]) (by simp [results, Tryd.results20, go_sem, x2]) rfl ⟨none, 0, rfl, World.ownsRow_nil _ _ _ _, HB1.out.setCell (by show w.heap.size ≤ w.heap.size + 1; omega) _⟩
  · have HV := Lib.hid hv
    have h12 := vEnum_len hv
    have HM : Hid (mSort ds = srt ds) := Lib.hid (by unfold mSort; rw [hv]; rfl)
    have HNA : Hid (ds.length ≤ 12) := Lib.hid h12
    clear hv
    go_enter Tryd.func20, Tryd.ntmps20
    go_wp2_with fail
    rw [HW0.out]
    refine (implVE_v ds _ _ _ _ HRA.out HV.out).mono ?_
    rintro e1 w1 ⟨rfl, hb⟩
    have HB1 := Lib.hid (HB0.out.trans (hb.mono HB0.out.size))
    have HX2 := Lib.hid (HC2.out.below hb)
    have hz1 : w.heap.size + 2 ≤ w1.heap.size := Nat.le_trans HZ0.out hb.size
    have x0 := (HC0.out.below hb).1
    have HSA1 := Lib.hid ((HRA.out.below hb).call hb.size)
    clear hb
    obtain rfl := HLA.out
    obtain ⟨W3, hW3⟩ : ∃ W : World, W = w1.alloc (.cells #[.slice A ds.length c] 26) := ⟨_, rfl⟩
    have hb3 : Below w1.heap.size w1 W3 := by rw [hW3]; exact (Below.refl _ _).alloc (Nat.le_refl _) _
    have hz3 : W3.heap.size = w1.heap.size + 1 := by rw [hW3]; simp
    have HPT : Hid (Rd W3 W3.heap.size 1 encP (some ⟨w1.heap.size, 0, none⟩) [(⟨A, ds.length, c, ds⟩ : Part D)]) := Lib.hid (part1 (by rw [hW3]; simp [go_sem]) (by omega))
    have HPS : Hid (∀ x ∈ [(⟨A, ds.length, c, ds⟩ : Part D)], SL encD 2 W3 W3.heap.size x.A x.n x.c x.xs) := Lib.hid (by
      intro x hx
      simp at hx
      subst hx
      exact ((HSA1.out.below hb3).call hb3.size).sl)
    have HE : Hid (cat [(⟨A, ds.length, c, ds⟩ : Part D)] = ds) := Lib.hid (by simp [cat])
    have HB3 := Lib.hid hb3
    have HW3 := Lib.hid hW3.symm
    clear hb3 hW3 hz3
    go_wp2_with fail
    rw [HW3.out]
    refine (concatD_v _ _ _ _ _ HPT.out rfl (by simp) (by omega) HPS.out HE.out (by have := HNA.out; omega)).mono ?_
    rintro e2 w4 ⟨A4, c4, rfl, ho, hb4⟩
    have HB4 := Lib.hid (HB3.out.trans (hb4.mono HB3.out.size))
    have HO4 := Lib.hid (own_base ho HB3.out.size)
    have HX4 := Lib.hid (HX2.out.below HB4.out)
    clear ho hb4 HB3 HPT HPS
    go_wp2_with fail
    refine (sortStable_any ds HOA.out HNA.out A4 c4 _ _ HO4.out HB4.out.size).mono ?_
    rintro e3 w5 ⟨rfl, ho5, hb5⟩
    have HO5 := Lib.hid ho5
    have HB5 := Lib.hid (HB4.out.trans hb5)
    have HBE := Lib.hid (HB1.out.trans (HB5.out.mono HB1.out.size))
    obtain ⟨x2, y2⟩ := HX2.out.below HB5.out
    have HL := Lib.hid (srt_length ds)
    clear ho5 hb5
    go_wp2
    refine bodyPost_ret (v := .agg #[.slice A4 ds.length c4]) (by simp [results, Tryd.results20, go_sem, x2]) rfl ?_
    rw [HM.out]
    exact ⟨A4, c4, by rw [HL.out], by rw [HL.out]; exact own_base (own_setCell HO5.out (fun e => by have := (HO5.out.lt _ e).1; simp at this; omega) _) (by omega), HBE.out.setCell (by show w.heap.size ≤ w.heap.size + 1; omega) _⟩
end Go.Proofs.YteaiaglangmhbaaDoor
