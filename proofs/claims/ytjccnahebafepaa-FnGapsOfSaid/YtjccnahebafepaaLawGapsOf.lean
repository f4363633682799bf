/-
For every code the law of gaps returns true: the program's GapsOf answers as its model; no gap has a name, and the gaps ascend from behind a named value to the one ahead of a named value.
Conditions: none.
-/
import Derived.Test.YtjccnahebafepaaLBase
import Derived.Test.YtjccnahebafepaaNmOf
import Derived.Test.YtjccnahebafepaaLGap
namespace Go.Proofs.Ytjccnahebafepaa.fnGapsOf
open Go.ChangeShapes Go.WideShapes Go.ChangeAt Go.RowKit
open Go.ChangeMaps (open_string shut_string)
set_option linter.unusedVariables false

theorem gaps_yes {ds : List D} (h : 0 < (mGaps ds).length) : vEnum ds = true ∧ GapsFit ds (mGaps ds) := by
  by_cases h1 : vEnum ds = true
  · by_cases h2 : ds = []
    · rw [mGaps_no (.inr h2)] at h; simp at h
    · by_cases h3 : 30 < (gapsTo ds (lo ds) (hi ds - lo ds).toNat).length
      · rw [mGaps_many h1 h2 _ (Nat.le_refl _) h3] at h; simp at h
      · exact ⟨h1, gaps_fit h1 h2 h3⟩
  · rw [mGaps_no (.inl (by simpa using h1))] at h; simp at h
theorem has_idx {ds : List D} {v : Int} (h : ¬ fidx (isVal v) ds < 0) : ∃ k, ∃ _ : k < ds.length, fidx (isVal v) ds = ((k : Nat) : Int) := by
  rcases fidx_cases (isVal v) ds with ⟨h1, _⟩ | ⟨k, hk, h1, _⟩
  · omega
  · exact ⟨k, hk, h1⟩
theorem implGaps_v (ds : List D) (A : Option Addr) (c n : Nat) (w : World) (hr : SD w w.heap.size A n c ds) {zs : List Int} (h : mGaps ds = zs) :
    Calls Try.prog 43 #[.agg #[.slice A n c]] w (IntsP zs w) := h ▸ implGapsOf_any ds A c n w hr
theorem specGaps_v (ds : List D) (A : Option Addr) (c n : Nat) (w : World) (hr : SD w w.heap.size A n c ds) {zs : List Int} (h : mGaps ds = zs) :
    Calls Try.prog 45 #[.agg #[.slice A n c]] w (IntsP zs w) := h ▸ specGapsOf_any ds A c n w hr

set_option maxHeartbeats 8000000 in
theorem walk (A : Option Addr) (n c : Nat) (zs : List Int) (w : World) (h : SB w w.heap.size A n c zs) :
    Calls Try.prog 12 #[.slice A n c] w fun e w' => e = .returned (.bool true) ∧ Below w.heap.size w w' := by
  have hm := h.max
  have hcap := h.cap
  unfold maxLen at hm
  have HS0 := Lib.hid h
  clear h
  by_cases hbig : 1048576 < (n : Int)
  · go_enter Try.func12, Try.ntmps12
    go_wp2
    go_ret
    exact ⟨rfl, Below.refl _ _⟩
  go_enter Try.func12, Try.ntmps12
  go_wp2_with fail
  refine (drawGapsOf_any A n c zs _ HS0.out).mono ?_
  rintro e w1 ⟨Ae, ce, ds, rfl, hn, hsm, hs, hb⟩
  have c2 : (w1.alloc (.cells #[.slice Ae ds.length ce] 28)).cell? ⟨w1.heap.size, 0, none⟩ = some (.slice Ae ds.length ce) := by simp [go_sem]
  have HB2 : Hid (Below w.heap.size w (w1.alloc (.cells #[.slice Ae ds.length ce] 28))) := Lib.hid (hb.alloc hb.size _)
  have HS2 : Hid (SD (w1.alloc (.cells #[.slice Ae ds.length ce] 28)) (w1.alloc (.cells #[.slice Ae ds.length ce] 28)).heap.size Ae ds.length ce ds) := Lib.hid ((hs.alloc (Nat.le_refl _) _).call (by simp))
  have HSM := Lib.hid hsm
  have HOK : Hid (∀ d ∈ ds, d.ok) := Lib.hid (fun d hd => small_ok (hsm d hd))
  clear hb hs hsm
  have hml := mGaps_len ds
  have hfit := gaps_yes (ds := ds)
  have hok := mGaps_ok ds
  generalize hms : mGaps ds = zs at hml hfit hok
  have HMS := Lib.hid hms
  have HFIT := Lib.hid hfit
  have HOM := Lib.hid hok
  clear hms hfit hok
  by_cases hz : zs.length = 0
  · have hz1 : ((zs.length : Int) == 0) = true := by rw [beq_iff_eq]; omega
    clear hz
    go_wp2_with fail
    refine (implGaps_v ds _ _ _ _ HS2.out HMS.out).mono ?_
    rintro e w3 ⟨A3, d3, rfl, ho, hb⟩
    have c3 := keep1 hb c2
    have HB3 : Hid (Below w.heap.size w w3) := Lib.hid (HB2.out.trans (hb.mono HB2.out.size))
    have HS3 := Lib.hid ((HS2.out.below hb).call hb.size)
    have HX3 := Lib.hid (si_of_own ho HOM.out)
    clear ho hb c2 HB2 HS2
    go_wp2_with fail
    refine (specGaps_v ds _ _ _ _ HS3.out HMS.out).mono ?_
    rintro e w4 ⟨A4, d4, rfl, ho, hb⟩
    have c4 := keep1 hb c3
    have HB4 : Hid (Below w.heap.size w w4) := Lib.hid (HB3.out.trans (hb.mono HB3.out.size))
    have HS4 := Lib.hid ((HS3.out.below hb).call hb.size)
    have HY4 := Lib.hid (si_of_own ho HOM.out)
    have HX4 := Lib.hid ((HX3.out.below hb).call hb.size)
    clear HX3
    clear ho hb c3 HB3 HS3
    go_wp2_with fail
    refine (equalInts_any zs _ _ _ _ _ _ _ HX4.out HY4.out).mono ?_
    rintro e w5 ⟨rfl, hb⟩
    have c5 := keep1 hb c4
    have HB5 : Hid (Below w.heap.size w w5) := Lib.hid (HB4.out.trans (hb.mono HB4.out.size))
    have HS5 := Lib.hid ((HS4.out.below hb).call hb.size)
    have HX5 := Lib.hid ((HX4.out.below hb).call hb.size)
    clear hb c4 HB4 HS4 HX4 HY4
    go_wp2_with fail
    refine (specGaps_v ds _ _ _ _ HS5.out HMS.out).mono ?_
    rintro e w6 ⟨A6, d6, rfl, ho, hb⟩
    have c6 := keep1 hb c5
    have HB6 : Hid (Below w.heap.size w w6) := Lib.hid (HB5.out.trans (hb.mono HB5.out.size))
    have HS6 := Lib.hid ((HS5.out.below hb).call hb.size)
    have HY6 := Lib.hid (si_of_own ho HOM.out)
    have HX6 := Lib.hid ((HX5.out.below hb).call hb.size)
    clear HX5
    clear ho hb c5 HB5 HS5
    go_wp2_with fail
    refine (equalInts_any zs _ _ _ _ _ _ _ HX6.out HY6.out).mono ?_
    rintro e w7 ⟨rfl, hb⟩
    have c7 := keep1 hb c6
    have HB7 : Hid (Below w.heap.size w w7) := Lib.hid (HB6.out.trans (hb.mono HB6.out.size))
    have HS7 := Lib.hid ((HS6.out.below hb).call hb.size)
    have HX7 := Lib.hid ((HX6.out.below hb).call hb.size)
    clear hb c6 HB6 HS6 HX6 HY6
    go_wp2
    go_ret
    exact ⟨rfl, HB7.out⟩

  have hz1 : ((zs.length : Int) == 0) = false := by rw [beq_eq_false_iff_ne]; omega
  have hpos : 0 < zs.length := by omega
  have hlast : zs.length - 1 < zs.length := by omega
  obtain ⟨hv, hgf⟩ := HFIT.out hpos
  obtain ⟨kl, hkl, hfl⟩ := has_idx (hgf.low hpos)
  obtain ⟨kh, hkh, hfh⟩ := has_idx (hgf.high hpos)
  have hb0 := hgf.bd _ (List.getElem_mem hpos)
  have hb1 := hgf.bd _ (List.getElem_mem hlast)
  have HV := Lib.hid hv
  have HGF := Lib.hid hgf
  have HFL := Lib.hid hfl
  have HFH := Lib.hid hfh
  have HE : Hid (((zs.length : Int) - 1).toNat = zs.length - 1) := Lib.hid (by omega)
  clear hv hgf hfl hfh hz HFIT
  go_wp2_with fail
  refine (implGaps_v ds _ _ _ _ HS2.out HMS.out).mono ?_
  rintro e w3 ⟨A3, d3, rfl, ho, hb⟩
  have c3 := keep1 hb c2
  have HB3 : Hid (Below w.heap.size w w3) := Lib.hid (HB2.out.trans (hb.mono HB2.out.size))
  have HS3 := Lib.hid ((HS2.out.below hb).call hb.size)
  have HX3 := Lib.hid (si_of_own ho HOM.out)
  clear ho hb c2 HB2 HS2
  go_wp2_with fail
  refine (specGaps_v ds _ _ _ _ HS3.out HMS.out).mono ?_
  rintro e w4 ⟨A4, d4, rfl, ho, hb⟩
  have c4 := keep1 hb c3
  have HB4 : Hid (Below w.heap.size w w4) := Lib.hid (HB3.out.trans (hb.mono HB3.out.size))
  have HS4 := Lib.hid ((HS3.out.below hb).call hb.size)
  have HY4 := Lib.hid (si_of_own ho HOM.out)
  have HX4 := Lib.hid ((HX3.out.below hb).call hb.size)
  clear HX3
  clear ho hb c3 HB3 HS3
  go_wp2_with fail
  refine (equalInts_any zs _ _ _ _ _ _ _ HX4.out HY4.out).mono ?_
  rintro e w5 ⟨rfl, hb⟩
  have c5 := keep1 hb c4
  have HB5 : Hid (Below w.heap.size w w5) := Lib.hid (HB4.out.trans (hb.mono HB4.out.size))
  have HS5 := Lib.hid ((HS4.out.below hb).call hb.size)
  have HX5 := Lib.hid ((HX4.out.below hb).call hb.size)
  clear hb c4 HB4 HS4 HX4 HY4
  obtain ⟨b, o, rfl, hbb, x5⟩ := HX5.out.at_ hpos
  obtain ⟨b', o', hA, hbb', y5⟩ := HX5.out.at_ hlast
  injection hA with hA
  injection hA with hA1 hA2
  subst hA1 hA2
  have p0 := hb0.1
  have p1 := hb0.2
  have p2 := hb1.1
  have p3 := hb1.2
  have HZ0 : Hid (∃ z, z = zs[0]) := Lib.hid ⟨_, rfl⟩
  generalize hz0 : zs[0] = z0 at x5 HFL p0 p1
  generalize hz9 : zs[zs.length - 1] = z9 at y5 HFH p2 p3
  have hidx : (0 : Int) ≤ (zs.length : Int) - 1 := by omega
  have hidx2 : (zs.length : Int) - 1 < (zs.length : Int) := by omega
  have htn : ((zs.length : Int) - 1).toNat = zs.length - 1 := by omega
  have hin0 : (0 : Int) < (zs.length : Int) := by omega
  simp only [Nat.add_zero] at x5
  clear hz0 hz9 HZ0 hb0 hb1
  go_wp2_with fail
  refine (implNameOf_yes ds _ _ _ _ _ HS5.out HV.out kl hkl HFL.out).mono ?_
  rintro e w6 ⟨rfl, hb⟩
  have c6 := keep1 hb c5
  have x6 := keep1 hb x5
  have y6 := keep1 hb y5
  have HB6 : Hid (Below w.heap.size w w6) := Lib.hid (HB5.out.trans (hb.mono HB5.out.size))
  have HS6 := Lib.hid ((HS5.out.below hb).call hb.size)
  have HX6 := Lib.hid ((HX5.out.below hb).call hb.size)
  clear hb c5 x5 y5 HB5 HS5 HX5
  go_wp2_with fail
  refine (implNameOf_yes ds _ _ _ _ _ HS6.out HV.out kh hkh HFH.out).mono ?_
  rintro e w7 ⟨rfl, hb⟩
  have c7 := keep1 hb c6
  have HB7 : Hid (Below w.heap.size w w7) := Lib.hid (HB6.out.trans (hb.mono HB6.out.size))
  have HS7 := Lib.hid ((HS6.out.below hb).call hb.size)
  have HX7 := Lib.hid ((HX6.out.below hb).call hb.size)
  clear hb c6 x6 y6 HB6 HS6 HX6
  go_wp2_with fail
  generalize hG : w1.heap.size = G at *
  clear hG
  go_loopw [11] (fun i wr => ∃ (k : Nat), k ≤ zs.length ∧ i = .int .i64 k ∧ Hid (Below w.heap.size w wr) ∧ Hid (wr.cell? ⟨G, 0, none⟩ = some (.slice Ae ds.length ce)) ∧ Hid (SD wr wr.heap.size Ae ds.length ce ds) ∧ Hid (SI wr wr.heap.size (some ⟨b, o, none⟩) zs.length d3 zs)) (fun i _ => zs.length - (intOf i).toNat)
  case atStart => exact ⟨0, Nat.zero_le _, rfl, HB7, Lib.hid c7, HS7, HX7⟩
  case round =>
    obtain ⟨k, hk, rfl, hbel, hce, hsd, hss⟩ := hrel
    have c8 := hce.out
    clear c7 HB7 HS7 HX7 hidx hidx2 htn hin0
    by_cases hlt : k < zs.length
    · obtain ⟨b', o', hA, hbb', x8⟩ := hss.out.at_ hlt
      injection hA with hA
      injection hA with hA1 hA2
      subst hA1 hA2
      have hno := HGF.out.none _ (List.getElem_mem hlt)
      have hbd := HGF.out.bd _ (List.getElem_mem hlt)
      generalize zs[k] = t at *
      generalize hf : fidx (isVal t) ds = x at hno
      have HF := Lib.hid hf
      have HBD := Lib.hid hbd
      have HNO := Lib.hid hno
      have hi1 : (k : Int) < (zs.length : Int) := by omega
      have hi0 : (0 : Int) ≤ (k : Int) := by omega
      clear hf hbd hno
      go_wp2_with fail
      go_region_held3 (fun w' => w'.cell? ⟨G, 0, none⟩ = some (.slice Ae ds.length ce) ∧ w'.cell? ⟨b, o + k, none⟩ = some (.int .i64 t)) (first | go_keep | exact ⟨y7, y8⟩)
        (first | (go_at_call 23; refine (implNameOf_no ds t _ _ _ _ (hsd.out.drewN 1) (by have := HBD.out; omega) HV.out HF.out (.inr HNO.out)).mono ?_; rintro e w9 ⟨rfl, hb⟩; replace hb : Below wr.heap.size wr w9 := undrew hb; have y7 := keep1 hb c8; have y8 := keep1 hb x8))
      have HB9 : Hid (Below w.heap.size w w9) := Lib.hid (hbel.out.trans (hb.mono hbel.out.size))
      have HS9 := Lib.hid ((hsd.out.below hb).call hb.size)
      have HX9 := Lib.hid ((hss.out.below hb).call hb.size)
      have HC9 := Lib.hid y7
      clear hb hbel hsd hss c8 x8 hce
      go_wp2
      go_roundw
      case rel => exact ⟨k + 1, by omega, by go_num, HB9, HC9, HS9, HX9⟩
      case measure => simp [intOf]; omega
    · obtain rfl : k = zs.length := by omega
      go_wp2_with fail
      refine (ascends_any zs _ _ _ _ hss.out HGF.out.up).mono ?_
      rintro e w9 ⟨rfl, hb⟩
      have HB9 : Hid (Below w.heap.size w w9) := Lib.hid (hbel.out.trans (hb.mono hbel.out.size))
      clear hb
      go_wp2
      go_ret
      exact ⟨rfl, HB9.out⟩

set_option maxRecDepth 100000 in
theorem lifted (os : Os) (started : os.Started) (H : Type) (enc : TypeId × Value → H) :
    ReturnsInHanded {} Try.checked os 12 .any (Rows.fnGapsOfSpec.pre6 enc Try.prog Try.f12 Rows.fnGapsOfRow.domain false) (Rows.fnGapsOfSpec.post enc Try.prog Try.f12 false true false false) := by
  refine returnsInHanded_of_change (C := Try.checked) own started (by kernel_rfl) Try.func12
    (ChangeSpec.witness6 (enc := enc) (C := Try.checked) false ⟨#[], #[.slice none 0 0], []⟩ 8 (by kernel_rfl) (by kernel_rfl) (by kernel_rfl) (by kernel_rfl)) ?_
  intro W base args ds gs before hval0 hW hcnd _
  have hval : ∀ (j : Nat) t v, Try.f12.params[j]? = some t → args[j]? = some v → Value.okWide Try.prog W .any base t v := hval0
  have hW' := hW
  obtain ⟨p, q, hA0, hV, rfl, hfz, hnd⟩ := hW
  have hA : DataW.TrodAll enc Try.prog W 0 (fun _ => true) true Try.f12.params.toList args.toList ds p := hA0
  rw [Try.params12] at hA hval
  obtain ⟨v0, vs0, d0, ds0, p0, q0, hargs, rfl, rfl, h0, r0⟩ := trodAll_cons hA
  obtain ⟨rfl, rfl, rfl⟩ := trodAll_nil r0
  obtain rfl : args = #[v0] := by cases args; simp_all
  obtain ⟨rfl, rfl⟩ := trodVars_none hV
  have k0 := h0
  have lt0 : ∀ x ∈ p0, x.block < W.heap.size := by obtain ⟨m, hm⟩ := k0; exact DataW.trod_lt m _ _ _ hm
  obtain ⟨A0, n0, c0, l0, rfl, w0⟩ := open_code (hval 0 22 v0 rfl rfl) h0
  clear hA0 hval0
  refine (walk A0 n0 c0 l0 W w0).mono fun e W' ⟨he, bel⟩ => ?_
  subst he
  exact ⟨_, rfl, _, _, _, [], _, [], hW', trodAll_mk1 (shut_bool Try.underlying4 _), (trodAll_cons_mk (Below.trod laidOut (by kernel_rfl) (of_decide_eq_true (by kernel_rfl)) k0 bel lt0) trodAll_mk0), rfl, bel.frame _, fun h => by cases h⟩

theorem over : Rows.fnGapsOfRow.holds Try.pinned (OpenSpec.ofChange Rows.fnGapsOfSpec) :=
  OpenClaim.holds_of_wide 12 Try.f12 rfl rfl rfl rfl rfl rfl rfl ⟨rfl, rfl, rfl, rfl, rfl⟩ rfl rfl rfl rfl rfl (by kernel_rfl) Try.func12 (by kernel_rfl)
    (of_decide_eq_true (by kernel_rfl)) (by unfold Func.isWrapper; first | (rw [if_pos (by decide +kernel)]; kernel_rfl) | (rw [if_neg (by decide +kernel)]; exact ⟨rfl, rfl⟩))
    (fun os started H enc _ => lifted os started H enc)

theorem proved : Rows.FnGapsOfSaid := over
end Go.Proofs.Ytjccnahebafepaa.fnGapsOf
