import Derived.Test.YtcbhfaijlmckbaaConvP
import Derived.Test.YtcbhfaijlmckbaaBaseB
import Derived.Test.YtcbhfaijlmckbaaBaseC
namespace Go.Proofs.Ytcbhfaijlmckbaa
open Go.RowKit Go.Maps
set_option linter.unusedVariables false
set_option maxRecDepth 100000


theorem indexOf_b (ds : List D) (s : ByteArray) (A : Option Addr) (c n : Nat) (w : World) (hr : SD w w.heap.size A n c ds) {v : Int} (hv : fidx (isNm s) ds = v) :
    Calls Try.prog 83 #[.slice A n c, .string s] w fun e w' => e = .returned (.int .i64 v) ∧ Below w.heap.size w w' :=
  (indexOf_v ds s A c n w hr hv).mono fun e w' h => ⟨h.1, by rw [h.2]; exact Below.refl _ _⟩

set_option maxHeartbeats 4000000 in
theorem specByN_v (ds es : List D) (s : ByteArray) (A B : Option Addr) (n c m e : Nat) (w : World) (ha : SD w w.heap.size A n c ds) (hb : SD w w.heap.size B m e es) {r0 : ByteArray} {r1 : Bool} (h0 : mByN ds es s = r0) (h1 : byOk ds es s = r1) :
    Calls Try.prog 33 #[.agg #[.slice A n c], .agg #[.slice B m e], .string s] w (fun en w' => en = .returned (.tuple #[.string r0, .bool r1]) ∧ Below w.heap.size w w') := by
  subst h0 h1
  have HRa := Lib.hid ha
  have HOA := Lib.hid ha.ok
  have HLA := Lib.hid ha.len
  clear ha
  have HRb := Lib.hid hb
  have HOB := Lib.hid hb.ok
  have HLB := Lib.hid hb.len
  clear hb
  obtain ⟨va, hva⟩ : ∃ v, vEnum ds = v := ⟨_, rfl⟩
  obtain ⟨vb, hvb⟩ : ∃ v, vEnum es = v := ⟨_, rfl⟩
  obtain ⟨xa, hxa⟩ : ∃ v, fidx (isNm s) ds = v := ⟨_, rfl⟩
  obtain ⟨xb, hxb⟩ : ∃ v, fidx (isNm s) es = v := ⟨_, rfl⟩
  have HVA := Lib.hid hva
  have HVB := Lib.hid hvb
  have HXA := Lib.hid hxa
  have HXB := Lib.hid hxb
  obtain ⟨w0, hw⟩ : ∃ W : World, W = ((w.alloc (.cells #[.slice A n c] 25)).alloc (.cells #[.slice B m e] 25)) := ⟨_, rfl⟩
  have hb : Below w.heap.size w w0 := by rw [hw]; exact (((Below.refl _ _).alloc (by first | exact Nat.le_refl _ | (simp; done) | (simp; omega)) _).alloc (by first | exact Nat.le_refl _ | (simp; done) | (simp; omega)) _)
  have hs0 : w.heap.size + 2 ≤ w0.heap.size := by rw [hw]; simp
  have pa_0 : w0.cell? ⟨w.heap.size, 0, none⟩ = some (.slice A n c) := by rw [hw]; simp [go_sem]
  have pb_0 : w0.cell? ⟨w.heap.size + 1, 0, none⟩ = some (.slice B m e) := by rw [hw]; simp [go_sem]
  have HB_0 := Lib.hid hb
  have HW0 : Hid (((w.alloc (.cells #[.slice A n c] 25)).alloc (.cells #[.slice B m e] 25)) = w0) := Lib.hid hw.symm
  clear hb hw
  cases va
  · clear hva hvb hxa hxb
    have HO : Hid (byOk ds es s = false) := Lib.hid (by unfold byOk; rw [HVA.out]; rfl)
    have HM : Hid (mByN ds es s = ⟨#[]⟩) := Lib.hid (by unfold mByN; rw [HO.out]; rfl)
    go_enter Try.func33, Try.ntmps33
    go_wp2_with fail
    rw [HW0.out]
    refine (indexOf_b es s _ _ _ _ ((HRb.out.below HB_0.out).call HB_0.out.size) HXB.out).mono ?_
    rintro e w1 ⟨rfl, hb⟩
    have hs1 : w0.heap.size ≤ w1.heap.size := hb.size
    have pa_1 := keep1 hb pa_0
    have pb_1 := keep1 hb pb_0
    have HB_1 : Hid (Below w.heap.size w w1) := Lib.hid (HB_0.out.trans (hb.mono HB_0.out.size))
    clear hb  pa_0 pb_0 HB_0
    go_wp2_with fail
    refine (specVE_v ds _ _ _ _ ((HRa.out.below HB_1.out).call HB_1.out.size) HVA.out).mono ?_
    rintro e w2 ⟨rfl, hb⟩
    have hs2 : w1.heap.size ≤ w2.heap.size := hb.size
    have pa_2 := keep1 hb pa_1
    have pb_2 := keep1 hb pb_1
    have HB_2 : Hid (Below w.heap.size w w2) := Lib.hid (HB_1.out.trans (hb.mono HB_1.out.size))
    clear hb  pa_1 pb_1 HB_1
    go_wp2
    go_ret2
    exact ⟨by rw [HM.out, HO.out]; first | done | rfl, HB_2.out⟩
  cases vb
  · clear hva hvb hxa hxb
    have HO : Hid (byOk ds es s = false) := Lib.hid (by unfold byOk; rw [HVB.out, Bool.and_false]; rfl)
    have HM : Hid (mByN ds es s = ⟨#[]⟩) := Lib.hid (by unfold mByN; rw [HO.out]; rfl)
    go_enter Try.func33, Try.ntmps33
    go_wp2_with fail
    rw [HW0.out]
    refine (indexOf_b es s _ _ _ _ ((HRb.out.below HB_0.out).call HB_0.out.size) HXB.out).mono ?_
    rintro e w1 ⟨rfl, hb⟩
    have hs1 : w0.heap.size ≤ w1.heap.size := hb.size
    have pa_1 := keep1 hb pa_0
    have pb_1 := keep1 hb pb_0
    have HB_1 : Hid (Below w.heap.size w w1) := Lib.hid (HB_0.out.trans (hb.mono HB_0.out.size))
    clear hb  pa_0 pb_0 HB_0
    go_wp2_with fail
    refine (specVE_v ds _ _ _ _ ((HRa.out.below HB_1.out).call HB_1.out.size) HVA.out).mono ?_
    rintro e w2 ⟨rfl, hb⟩
    have hs2 : w1.heap.size ≤ w2.heap.size := hb.size
    have pa_2 := keep1 hb pa_1
    have pb_2 := keep1 hb pb_1
    have HB_2 : Hid (Below w.heap.size w w2) := Lib.hid (HB_1.out.trans (hb.mono HB_1.out.size))
    clear hb  pa_1 pb_1 HB_1
    go_wp2_with fail
    refine (specVE_v es _ _ _ _ ((HRb.out.below HB_2.out).call HB_2.out.size) HVB.out).mono ?_
    rintro e w3 ⟨rfl, hb⟩
    have hs3 : w2.heap.size ≤ w3.heap.size := hb.size
    have pa_3 := keep1 hb pa_2
    have pb_3 := keep1 hb pb_2
    have HB_3 : Hid (Below w.heap.size w w3) := Lib.hid (HB_2.out.trans (hb.mono HB_2.out.size))
    clear hb  pa_2 pb_2 HB_2
    go_wp2
    go_ret2
    exact ⟨by rw [HM.out, HO.out]; first | done | rfl, HB_3.out⟩
  by_cases hn : xb < 0
  · clear hva hvb hxa hxb
    have HO : Hid (byOk ds es s = false) := Lib.hid (by unfold byOk; rw [HXB.out, decide_eq_false (p := 0 ≤ xb) (by omega), Bool.and_false])
    have HM : Hid (mByN ds es s = ⟨#[]⟩) := Lib.hid (by unfold mByN; rw [HO.out]; rfl)
    go_enter Try.func33, Try.ntmps33
    go_wp2_with fail
    rw [HW0.out]
    refine (indexOf_b es s _ _ _ _ ((HRb.out.below HB_0.out).call HB_0.out.size) HXB.out).mono ?_
    rintro e w1 ⟨rfl, hb⟩
    have hs1 : w0.heap.size ≤ w1.heap.size := hb.size
    have pa_1 := keep1 hb pa_0
    have pb_1 := keep1 hb pb_0
    have HB_1 : Hid (Below w.heap.size w w1) := Lib.hid (HB_0.out.trans (hb.mono HB_0.out.size))
    clear hb  pa_0 pb_0 HB_0
    go_wp2_with fail
    refine (specVE_v ds _ _ _ _ ((HRa.out.below HB_1.out).call HB_1.out.size) HVA.out).mono ?_
    rintro e w2 ⟨rfl, hb⟩
    have hs2 : w1.heap.size ≤ w2.heap.size := hb.size
    have pa_2 := keep1 hb pa_1
    have pb_2 := keep1 hb pb_1
    have HB_2 : Hid (Below w.heap.size w w2) := Lib.hid (HB_1.out.trans (hb.mono HB_1.out.size))
    clear hb  pa_1 pb_1 HB_1
    go_wp2_with fail
    refine (specVE_v es _ _ _ _ ((HRb.out.below HB_2.out).call HB_2.out.size) HVB.out).mono ?_
    rintro e w3 ⟨rfl, hb⟩
    have hs3 : w2.heap.size ≤ w3.heap.size := hb.size
    have pa_3 := keep1 hb pa_2
    have pb_3 := keep1 hb pb_2
    have HB_3 : Hid (Below w.heap.size w w3) := Lib.hid (HB_2.out.trans (hb.mono HB_2.out.size))
    clear hb  pa_2 pb_2 HB_2
    go_wp2
    go_ret2
    exact ⟨by rw [HM.out, HO.out]; first | done | rfl, HB_3.out⟩
  by_cases hn2 : xa < 0
  · clear hva hvb hxa hxb
    have HO : Hid (byOk ds es s = false) := Lib.hid (by unfold byOk; rw [HXA.out, decide_eq_false (p := 0 ≤ xa) (by omega), Bool.and_false, Bool.false_and])
    have HM : Hid (mByN ds es s = ⟨#[]⟩) := Lib.hid (by unfold mByN; rw [HO.out]; rfl)
    go_enter Try.func33, Try.ntmps33
    go_wp2_with fail
    rw [HW0.out]
    refine (indexOf_b es s _ _ _ _ ((HRb.out.below HB_0.out).call HB_0.out.size) HXB.out).mono ?_
    rintro e w1 ⟨rfl, hb⟩
    have hs1 : w0.heap.size ≤ w1.heap.size := hb.size
    have pa_1 := keep1 hb pa_0
    have pb_1 := keep1 hb pb_0
    have HB_1 : Hid (Below w.heap.size w w1) := Lib.hid (HB_0.out.trans (hb.mono HB_0.out.size))
    clear hb  pa_0 pb_0 HB_0
    go_wp2_with fail
    refine (specVE_v ds _ _ _ _ ((HRa.out.below HB_1.out).call HB_1.out.size) HVA.out).mono ?_
    rintro e w2 ⟨rfl, hb⟩
    have hs2 : w1.heap.size ≤ w2.heap.size := hb.size
    have pa_2 := keep1 hb pa_1
    have pb_2 := keep1 hb pb_1
    have HB_2 : Hid (Below w.heap.size w w2) := Lib.hid (HB_1.out.trans (hb.mono HB_1.out.size))
    clear hb  pa_1 pb_1 HB_1
    go_wp2_with fail
    refine (specVE_v es _ _ _ _ ((HRb.out.below HB_2.out).call HB_2.out.size) HVB.out).mono ?_
    rintro e w3 ⟨rfl, hb⟩
    have hs3 : w2.heap.size ≤ w3.heap.size := hb.size
    have pa_3 := keep1 hb pa_2
    have pb_3 := keep1 hb pb_2
    have HB_3 : Hid (Below w.heap.size w w3) := Lib.hid (HB_2.out.trans (hb.mono HB_2.out.size))
    clear hb  pa_2 pb_2 HB_2
    go_wp2_with fail
    refine (indexOf_b ds s _ _ _ _ ((HRa.out.below HB_3.out).call HB_3.out.size) HXA.out).mono ?_
    rintro e w4 ⟨rfl, hb⟩
    have hs4 : w3.heap.size ≤ w4.heap.size := hb.size
    have pa_4 := keep1 hb pa_3
    have pb_4 := keep1 hb pb_3
    have HB_4 : Hid (Below w.heap.size w w4) := Lib.hid (HB_3.out.trans (hb.mono HB_3.out.size))
    clear hb  pa_3 pb_3 HB_3
    go_wp2
    go_ret2
    exact ⟨by rw [HM.out, HO.out]; first | done | rfl, HB_4.out⟩
  have HO : Hid (byOk ds es s = true) := Lib.hid (by unfold byOk; rw [HVA.out, HVB.out, HXA.out, HXB.out, decide_eq_true (p := 0 ≤ xa) (by omega), decide_eq_true (p := 0 ≤ xb) (by omega)]; rfl)
  rcases fidx_cases (isNm s) es with ⟨h1, _⟩ | ⟨k, hk, h1, _, _⟩
  · omega
  obtain rfl : xb = (k : Int) := by omega
  obtain ⟨j, hj, hf, he, _, _⟩ := first_of k hk
  have HM : Hid (mByN ds es s = es[j].name) := Lib.hid (by unfold mByN; rw [HO.out, if_pos rfl, valI_at hk hxb, nmAt_at hj hf])
  have HF : Hid (fidx (isVal es[k].val) es = (j : Int)) := Lib.hid hf
  clear hva hvb hxa hxb hf he h1
  go_enter Try.func33, Try.ntmps33
  go_wp2_with fail
  rw [HW0.out]
  refine (indexOf_b es s _ _ _ _ ((HRb.out.below HB_0.out).call HB_0.out.size) HXB.out).mono ?_
  rintro e w1 ⟨rfl, hb⟩
  have hs1 : w0.heap.size ≤ w1.heap.size := hb.size
  have pa_1 := keep1 hb pa_0
  have pb_1 := keep1 hb pb_0
  have HB_1 : Hid (Below w.heap.size w w1) := Lib.hid (HB_0.out.trans (hb.mono HB_0.out.size))
  clear hb  pa_0 pb_0 HB_0
  go_wp2_with fail
  refine (specVE_v ds _ _ _ _ ((HRa.out.below HB_1.out).call HB_1.out.size) HVA.out).mono ?_
  rintro e w2 ⟨rfl, hb⟩
  have hs2 : w1.heap.size ≤ w2.heap.size := hb.size
  have pa_2 := keep1 hb pa_1
  have pb_2 := keep1 hb pb_1
  have HB_2 : Hid (Below w.heap.size w w2) := Lib.hid (HB_1.out.trans (hb.mono HB_1.out.size))
  clear hb  pa_1 pb_1 HB_1
  go_wp2_with fail
  refine (specVE_v es _ _ _ _ ((HRb.out.below HB_2.out).call HB_2.out.size) HVB.out).mono ?_
  rintro e w3 ⟨rfl, hb⟩
  have hs3 : w2.heap.size ≤ w3.heap.size := hb.size
  have pa_3 := keep1 hb pa_2
  have pb_3 := keep1 hb pb_2
  have HB_3 : Hid (Below w.heap.size w w3) := Lib.hid (HB_2.out.trans (hb.mono HB_2.out.size))
  clear hb  pa_2 pb_2 HB_2
  go_wp2_with fail
  refine (indexOf_b ds s _ _ _ _ ((HRa.out.below HB_3.out).call HB_3.out.size) HXA.out).mono ?_
  rintro e w4 ⟨rfl, hb⟩
  have hs4 : w3.heap.size ≤ w4.heap.size := hb.size
  have pa_4 := keep1 hb pa_3
  have pb_4 := keep1 hb pb_3
  have HB_4 : Hid (Below w.heap.size w w4) := Lib.hid (HB_3.out.trans (hb.mono HB_3.out.size))
  clear hb  pa_3 pb_3 HB_3
  go_wp2_with fail
  have HS := Lib.hid ((HRb.out.below HB_4.out).call HB_4.out.size)
  have HSX := Lib.hid ((HRb.out.below HB_4.out).call HB_4.out.size)
  obtain ⟨b, o, hA, hbb, d1, d2⟩ := HSX.out.at_ hk
  subst hA
  obtain ⟨b', o', hA, hbb', d1', d2'⟩ := HSX.out.at_ hj
  injection hA with hA
  injection hA with hA1 hA2
  subst hA1 hA2
  have hlen := HLB.out
  have hmx := HSX.out.max
  have hcp := HSX.out.cap
  unfold maxLen at hmx
  have hi1 : (k : Int) < (m : Int) := by omega
  have hi0 : (0 : Int) ≤ (k : Int) := by omega
  have hj1 : (j : Int) < (m : Int) := by omega
  have hj0 : (0 : Int) ≤ (j : Int) := by omega
  go_region_held3 (fun w' => w'.cell? ⟨w.heap.size + 1, 0, none⟩ = some (.slice (some ⟨b, o, none⟩) m e) ∧ w'.cell? ⟨b, o + k * 2 + 1, none⟩ = some (.int .i64 es[k].val) ∧ w'.cell? ⟨b, o + j * 2, none⟩ = some (.string es[j].name)) (first | go_keep | exact ⟨pb_4, d2, d1'⟩)
    (first | (go_at_call 66; refine (valueAt_v es _ _ _ _ _ (by first | exact HS.out | exact HS.out.drew | exact HS.out.drewN _) HF.out).mono ?_; rintro e w' ⟨rfl, rfl⟩))
  go_wp2
  go_ret2
  exact ⟨by rw [HM.out, HO.out]; first | done | rfl, by first | exact HB_4.out | exact HB_4.out.drew | exact below_drewN HB_4.out _⟩

set_option maxHeartbeats 4000000 in
theorem specByV_v (ds es : List D) (s : ByteArray) (A B : Option Addr) (n c m e : Nat) (w : World) (ha : SD w w.heap.size A n c ds) (hb : SD w w.heap.size B m e es) {r0 : ByteArray} {r1 : Bool} (h0 : mByV ds es s = r0) (h1 : byVOk ds es s = r1) :
    Calls Try.prog 37 #[.agg #[.slice A n c], .agg #[.slice B m e], .string s] w (fun en w' => en = .returned (.tuple #[.string r0, .bool r1]) ∧ Below w.heap.size w w') := by
  subst h0 h1
  have HRa := Lib.hid ha
  have HOA := Lib.hid ha.ok
  have HLA := Lib.hid ha.len
  clear ha
  have HRb := Lib.hid hb
  have HOB := Lib.hid hb.ok
  have HLB := Lib.hid hb.len
  clear hb
  obtain ⟨va, hva⟩ : ∃ v, vEnum ds = v := ⟨_, rfl⟩
  obtain ⟨vb, hvb⟩ : ∃ v, vEnum es = v := ⟨_, rfl⟩
  obtain ⟨xa, hxa⟩ : ∃ v, fidx (isNm s) ds = v := ⟨_, rfl⟩
  obtain ⟨xb, hxb⟩ : ∃ v, fidx (isNm s) es = v := ⟨_, rfl⟩
  have HVA := Lib.hid hva
  have HVB := Lib.hid hvb
  have HXA := Lib.hid hxa
  have HXB := Lib.hid hxb
  obtain ⟨w0, hw⟩ : ∃ W : World, W = ((w.alloc (.cells #[.slice A n c] 25)).alloc (.cells #[.slice B m e] 25)) := ⟨_, rfl⟩
  have hb : Below w.heap.size w w0 := by rw [hw]; exact (((Below.refl _ _).alloc (by first | exact Nat.le_refl _ | (simp; done) | (simp; omega)) _).alloc (by first | exact Nat.le_refl _ | (simp; done) | (simp; omega)) _)
  have hs0 : w.heap.size + 2 ≤ w0.heap.size := by rw [hw]; simp
  have pa_0 : w0.cell? ⟨w.heap.size, 0, none⟩ = some (.slice A n c) := by rw [hw]; simp [go_sem]
  have pb_0 : w0.cell? ⟨w.heap.size + 1, 0, none⟩ = some (.slice B m e) := by rw [hw]; simp [go_sem]
  have HB_0 := Lib.hid hb
  have HW0 : Hid (((w.alloc (.cells #[.slice A n c] 25)).alloc (.cells #[.slice B m e] 25)) = w0) := Lib.hid hw.symm
  clear hb hw
  cases va
  · clear hva hvb hxa hxb
    have HO : Hid (byVOk ds es s = false) := Lib.hid (by unfold byVOk; rw [HVA.out]; rfl)
    have HM : Hid (mByV ds es s = ⟨#[]⟩) := Lib.hid (by unfold mByV; rw [HO.out]; rfl)
    go_enter Try.func37, Try.ntmps37
    go_wp2_with fail
    rw [HW0.out]
    refine (indexOf_b ds s _ _ _ _ ((HRa.out.below HB_0.out).call HB_0.out.size) HXA.out).mono ?_
    rintro e w1 ⟨rfl, hb⟩
    have hs1 : w0.heap.size ≤ w1.heap.size := hb.size
    have pa_1 := keep1 hb pa_0
    have pb_1 := keep1 hb pb_0
    have HB_1 : Hid (Below w.heap.size w w1) := Lib.hid (HB_0.out.trans (hb.mono HB_0.out.size))
    clear hb  pa_0 pb_0 HB_0
    go_wp2_with fail
    refine (specVE_v ds _ _ _ _ ((HRa.out.below HB_1.out).call HB_1.out.size) HVA.out).mono ?_
    rintro e w2 ⟨rfl, hb⟩
    have hs2 : w1.heap.size ≤ w2.heap.size := hb.size
    have pa_2 := keep1 hb pa_1
    have pb_2 := keep1 hb pb_1
    have HB_2 : Hid (Below w.heap.size w w2) := Lib.hid (HB_1.out.trans (hb.mono HB_1.out.size))
    clear hb  pa_1 pb_1 HB_1
    go_wp2
    go_ret2
    exact ⟨by rw [HM.out, HO.out]; first | done | rfl, HB_2.out⟩
  cases vb
  · clear hva hvb hxa hxb
    have HO : Hid (byVOk ds es s = false) := Lib.hid (by unfold byVOk; rw [HVB.out, Bool.and_false]; rfl)
    have HM : Hid (mByV ds es s = ⟨#[]⟩) := Lib.hid (by unfold mByV; rw [HO.out]; rfl)
    go_enter Try.func37, Try.ntmps37
    go_wp2_with fail
    rw [HW0.out]
    refine (indexOf_b ds s _ _ _ _ ((HRa.out.below HB_0.out).call HB_0.out.size) HXA.out).mono ?_
    rintro e w1 ⟨rfl, hb⟩
    have hs1 : w0.heap.size ≤ w1.heap.size := hb.size
    have pa_1 := keep1 hb pa_0
    have pb_1 := keep1 hb pb_0
    have HB_1 : Hid (Below w.heap.size w w1) := Lib.hid (HB_0.out.trans (hb.mono HB_0.out.size))
    clear hb  pa_0 pb_0 HB_0
    go_wp2_with fail
    refine (specVE_v ds _ _ _ _ ((HRa.out.below HB_1.out).call HB_1.out.size) HVA.out).mono ?_
    rintro e w2 ⟨rfl, hb⟩
    have hs2 : w1.heap.size ≤ w2.heap.size := hb.size
    have pa_2 := keep1 hb pa_1
    have pb_2 := keep1 hb pb_1
    have HB_2 : Hid (Below w.heap.size w w2) := Lib.hid (HB_1.out.trans (hb.mono HB_1.out.size))
    clear hb  pa_1 pb_1 HB_1
    go_wp2_with fail
    refine (specVE_v es _ _ _ _ ((HRb.out.below HB_2.out).call HB_2.out.size) HVB.out).mono ?_
    rintro e w3 ⟨rfl, hb⟩
    have hs3 : w2.heap.size ≤ w3.heap.size := hb.size
    have pa_3 := keep1 hb pa_2
    have pb_3 := keep1 hb pb_2
    have HB_3 : Hid (Below w.heap.size w w3) := Lib.hid (HB_2.out.trans (hb.mono HB_2.out.size))
    clear hb  pa_2 pb_2 HB_2
    go_wp2
    go_ret2
    exact ⟨by rw [HM.out, HO.out]; first | done | rfl, HB_3.out⟩
  by_cases hn2 : xa < 0
  · clear hva hvb hxa hxb
    have HO : Hid (byVOk ds es s = false) := Lib.hid (by unfold byVOk; rw [HXA.out, decide_eq_false (p := 0 ≤ xa) (by omega), Bool.and_false, Bool.false_and])
    have HM : Hid (mByV ds es s = ⟨#[]⟩) := Lib.hid (by unfold mByV; rw [HO.out]; rfl)
    go_enter Try.func37, Try.ntmps37
    go_wp2_with fail
    rw [HW0.out]
    refine (indexOf_b ds s _ _ _ _ ((HRa.out.below HB_0.out).call HB_0.out.size) HXA.out).mono ?_
    rintro e w1 ⟨rfl, hb⟩
    have hs1 : w0.heap.size ≤ w1.heap.size := hb.size
    have pa_1 := keep1 hb pa_0
    have pb_1 := keep1 hb pb_0
    have HB_1 : Hid (Below w.heap.size w w1) := Lib.hid (HB_0.out.trans (hb.mono HB_0.out.size))
    clear hb  pa_0 pb_0 HB_0
    go_wp2_with fail
    refine (specVE_v ds _ _ _ _ ((HRa.out.below HB_1.out).call HB_1.out.size) HVA.out).mono ?_
    rintro e w2 ⟨rfl, hb⟩
    have hs2 : w1.heap.size ≤ w2.heap.size := hb.size
    have pa_2 := keep1 hb pa_1
    have pb_2 := keep1 hb pb_1
    have HB_2 : Hid (Below w.heap.size w w2) := Lib.hid (HB_1.out.trans (hb.mono HB_1.out.size))
    clear hb  pa_1 pb_1 HB_1
    go_wp2_with fail
    refine (specVE_v es _ _ _ _ ((HRb.out.below HB_2.out).call HB_2.out.size) HVB.out).mono ?_
    rintro e w3 ⟨rfl, hb⟩
    have hs3 : w2.heap.size ≤ w3.heap.size := hb.size
    have pa_3 := keep1 hb pa_2
    have pb_3 := keep1 hb pb_2
    have HB_3 : Hid (Below w.heap.size w w3) := Lib.hid (HB_2.out.trans (hb.mono HB_2.out.size))
    clear hb  pa_2 pb_2 HB_2
    go_wp2
    go_ret2
    exact ⟨by rw [HM.out, HO.out]; first | done | rfl, HB_3.out⟩
  rcases fidx_cases (isNm s) ds with ⟨h1, _⟩ | ⟨k, hk, h1, _, _⟩
  · omega
  obtain rfl : xa = (k : Int) := by omega
  have HVI : Hid (valI ds s = ds[k].val) := Lib.hid (valI_at hk hxa)
  obtain ⟨y, hy⟩ : ∃ y, fidx (isVal ds[k].val) es = y := ⟨_, rfl⟩
  have HY := Lib.hid hy
  by_cases hn3 : y < 0
  · clear hva hvb hxa hxb hy h1
    have HO : Hid (byVOk ds es s = false) := Lib.hid (by unfold byVOk; rw [HVI.out, HY.out, decide_eq_false (p := 0 ≤ y) (by omega), Bool.and_false])
    have HM : Hid (mByV ds es s = ⟨#[]⟩) := Lib.hid (by unfold mByV; rw [HO.out]; rfl)
    go_enter Try.func37, Try.ntmps37
    go_wp2_with fail
    rw [HW0.out]
    refine (indexOf_b ds s _ _ _ _ ((HRa.out.below HB_0.out).call HB_0.out.size) HXA.out).mono ?_
    rintro e w1 ⟨rfl, hb⟩
    have hs1 : w0.heap.size ≤ w1.heap.size := hb.size
    have pa_1 := keep1 hb pa_0
    have pb_1 := keep1 hb pb_0
    have HB_1 : Hid (Below w.heap.size w w1) := Lib.hid (HB_0.out.trans (hb.mono HB_0.out.size))
    clear hb  pa_0 pb_0 HB_0
    go_wp2_with fail
    refine (specVE_v ds _ _ _ _ ((HRa.out.below HB_1.out).call HB_1.out.size) HVA.out).mono ?_
    rintro e w2 ⟨rfl, hb⟩
    have hs2 : w1.heap.size ≤ w2.heap.size := hb.size
    have pa_2 := keep1 hb pa_1
    have pb_2 := keep1 hb pb_1
    have HB_2 : Hid (Below w.heap.size w w2) := Lib.hid (HB_1.out.trans (hb.mono HB_1.out.size))
    clear hb  pa_1 pb_1 HB_1
    go_wp2_with fail
    refine (specVE_v es _ _ _ _ ((HRb.out.below HB_2.out).call HB_2.out.size) HVB.out).mono ?_
    rintro e w3 ⟨rfl, hb⟩
    have hs3 : w2.heap.size ≤ w3.heap.size := hb.size
    have pa_3 := keep1 hb pa_2
    have pb_3 := keep1 hb pb_2
    have HB_3 : Hid (Below w.heap.size w w3) := Lib.hid (HB_2.out.trans (hb.mono HB_2.out.size))
    clear hb  pa_2 pb_2 HB_2
    go_wp2_with fail
    have HS := Lib.hid ((HRb.out.below HB_3.out).call HB_3.out.size)
    have HSX := Lib.hid ((HRa.out.below HB_3.out).call HB_3.out.size)
    obtain ⟨b, o, hA, hbb, d1, d2⟩ := HSX.out.at_ hk
    subst hA
    have hlen := HLA.out
    have hmx := HSX.out.max
    have hcp := HSX.out.cap
    unfold maxLen at hmx
    have hi1 : (k : Int) < (n : Int) := by omega
    have hi0 : (0 : Int) ≤ (k : Int) := by omega
    go_region_held3 (fun w' => w'.cell? ⟨w.heap.size + 1, 0, none⟩ = some (.slice B m e) ∧ w'.cell? ⟨b, o + k * 2 + 1, none⟩ = some (.int .i64 ds[k].val) ∧ w'.cell? ⟨w.heap.size, 0, none⟩ = some (.slice (some ⟨b, o, none⟩) n c)) (first | go_keep | exact ⟨pb_3, d2, pa_3⟩)
      (first | (go_at_call 66; refine (valueAt_v es _ _ _ _ _ (by first | exact HS.out | exact HS.out.drew | exact HS.out.drewN _) HY.out).mono ?_; rintro e w' ⟨rfl, rfl⟩))
    go_wp2
    go_ret2
    exact ⟨by rw [HM.out, HO.out]; first | done | rfl, by first | exact HB_3.out | exact HB_3.out.drew | exact below_drewN HB_3.out _⟩
  have HO : Hid (byVOk ds es s = true) := Lib.hid (by unfold byVOk; rw [HVA.out, HVB.out, HXA.out, HVI.out, HY.out, decide_eq_true (p := 0 ≤ (k : Int)) (by omega), decide_eq_true (p := 0 ≤ y) (by omega)]; rfl)
  rcases fidx_cases (isVal ds[k].val) es with ⟨h2, _⟩ | ⟨j, hj, h2, _, _⟩
  · omega
  obtain rfl : y = (j : Int) := by omega
  have HM : Hid (mByV ds es s = es[j].name) := Lib.hid (by unfold mByV; rw [HO.out, if_pos rfl, HVI.out, nmAt_at hj h2])
  clear hva hvb hxa hxb hy h1 h2
  go_enter Try.func37, Try.ntmps37
  go_wp2_with fail
  rw [HW0.out]
  refine (indexOf_b ds s _ _ _ _ ((HRa.out.below HB_0.out).call HB_0.out.size) HXA.out).mono ?_
  rintro e w1 ⟨rfl, hb⟩
  have hs1 : w0.heap.size ≤ w1.heap.size := hb.size
  have pa_1 := keep1 hb pa_0
  have pb_1 := keep1 hb pb_0
  have HB_1 : Hid (Below w.heap.size w w1) := Lib.hid (HB_0.out.trans (hb.mono HB_0.out.size))
  clear hb  pa_0 pb_0 HB_0
  go_wp2_with fail
  refine (specVE_v ds _ _ _ _ ((HRa.out.below HB_1.out).call HB_1.out.size) HVA.out).mono ?_
  rintro e w2 ⟨rfl, hb⟩
  have hs2 : w1.heap.size ≤ w2.heap.size := hb.size
  have pa_2 := keep1 hb pa_1
  have pb_2 := keep1 hb pb_1
  have HB_2 : Hid (Below w.heap.size w w2) := Lib.hid (HB_1.out.trans (hb.mono HB_1.out.size))
  clear hb  pa_1 pb_1 HB_1
  go_wp2_with fail
  refine (specVE_v es _ _ _ _ ((HRb.out.below HB_2.out).call HB_2.out.size) HVB.out).mono ?_
  rintro e w3 ⟨rfl, hb⟩
  have hs3 : w2.heap.size ≤ w3.heap.size := hb.size
  have pa_3 := keep1 hb pa_2
  have pb_3 := keep1 hb pb_2
  have HB_3 : Hid (Below w.heap.size w w3) := Lib.hid (HB_2.out.trans (hb.mono HB_2.out.size))
  clear hb  pa_2 pb_2 HB_2
  go_wp2_with fail
  have HS := Lib.hid ((HRb.out.below HB_3.out).call HB_3.out.size)
  have HSX := Lib.hid ((HRa.out.below HB_3.out).call HB_3.out.size)
  obtain ⟨b, o, hA, hbb, d1, d2⟩ := HSX.out.at_ hk
  subst hA
  have hlen := HLA.out
  have hmx := HSX.out.max
  have hcp := HSX.out.cap
  unfold maxLen at hmx
  have hi1 : (k : Int) < (n : Int) := by omega
  have hi0 : (0 : Int) ≤ (k : Int) := by omega
  go_region_held3 (fun w' => w'.cell? ⟨w.heap.size + 1, 0, none⟩ = some (.slice B m e) ∧ w'.cell? ⟨b, o + k * 2 + 1, none⟩ = some (.int .i64 ds[k].val) ∧ w'.cell? ⟨w.heap.size, 0, none⟩ = some (.slice (some ⟨b, o, none⟩) n c)) (first | go_keep | exact ⟨pb_3, d2, pa_3⟩)
    (first | (go_at_call 66; refine (valueAt_v es _ _ _ _ _ (by first | exact HS.out | exact HS.out.drew | exact HS.out.drewN _) HY.out).mono ?_; rintro e w' ⟨rfl, rfl⟩))
  obtain ⟨b2, o2, hB, hbb2, f1, f2⟩ := HS.out.at_ hj
  subst hB
  have hlB := HLB.out
  have hmB := HS.out.max
  have hcB := HS.out.cap
  unfold maxLen at hmB
  have hj1 : (j : Int) < (m : Int) := by omega
  have hj0 : (0 : Int) ≤ (j : Int) := by omega
  go_wp2
  go_ret2
  exact ⟨by rw [HM.out, HO.out]; first | done | rfl, by first | exact HB_3.out | exact HB_3.out.drew | exact below_drewN HB_3.out _⟩
end Go.Proofs.Ytcbhfaijlmckbaa
