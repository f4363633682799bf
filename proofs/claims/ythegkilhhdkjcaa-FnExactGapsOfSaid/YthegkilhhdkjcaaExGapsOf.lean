/-
For every enumeration the law on exact answers of GapsOf returns true: the program's GapsOf answers as its model does, leaves its arguments as they were, and its answer owns its memory.
Conditions: none.
-/
import Derived.Test.YthegkilhhdkjcaaOpen
import Derived.Test.YthegkilhhdkjcaaMarkD
import Derived.Test.YthegkilhhdkjcaaGaps
namespace Go.Proofs.Ythegkilhhdkjcaa.fnExactGapsOf
open Go.ChangeShapes Go.WideShapes Go.ChangeAt Go.RowKit
open Go.ChangeMaps (open_string shut_string)
set_option linter.unusedVariables false

set_option maxRecDepth 100000 in
set_option maxHeartbeats 4000000 in
theorem walkV (A : Option Addr) (n c : Nat) (ds : List D) (ss : List Int) (w : World) (hr : SD w w.heap.size A n c ds)
    (SPC : Hid (∀ (A : Option Addr) (n c : Nat) (w : World), SD w w.heap.size A n c ds → Calls Try.prog 39 #[.agg #[.slice A n c]] w (IntsP ss w)))
    (IMC : Hid (∀ (A : Option Addr) (n c : Nat) (w : World), SD w w.heap.size A n c ds → Calls Try.prog 40 #[.agg #[.slice A n c]] w (IntsP ss w))) (OKS : Hid (∀ t ∈ ss, -9223372036854775808 ≤ t ∧ t ≤ 9223372036854775807)) (hlen : ss.length ≤ 2000000) :
    Calls Try.prog 12 #[.agg #[.slice A n c]] w fun e w' => e = .returned (.bool true) ∧ Below w.heap.size w w' := by
  have HR := Lib.hid hr
  clear hr
  go_enter Try.func12, Try.ntmps12
  go_wp2_with fail
  have b0 : Below w.heap.size w (w.alloc (.cells #[.slice A n c] 25)) := (Below.refl _ _).alloc (Nat.le_refl _) _
  have HB0 := Lib.hid b0
  clear b0
  refine (szEnum_any ds A c n 1048576 _ ((HR.out.below HB0.out).call HB0.out.size) (by omega) (by omega)).mono ?_
  rintro e w1 ⟨r1, rfl, q0, q1, q2, hb⟩
  have HQ := Lib.hid q2
  have c1 : w1.cell? ⟨w.heap.size, 0, none⟩ = some (.slice A n c) := keep1 hb (by simp [go_sem])
  have HB1 : Hid (Below w.heap.size w w1) := Lib.hid (HB0.out.trans (hb.mono HB0.out.size))
  have hz1 : w.heap.size + 1 ≤ w1.heap.size := by have := hb.size; simpa using this
  clear hb q2 HB0
  by_cases hneg : r1 < 0
  · go_wp2
    go_ret
    exact ⟨rfl, HB1.out⟩
  have HN : Hid (n ≤ 1048576) := Lib.hid (by have := HQ.out (by omega); omega)
  clear HQ
  go_wp2_with fail
  refine (toEnum_any ds A c n _ ((HR.out.below HB1.out).call HB1.out.size) HN.out).mono ?_
  rintro e w2 ⟨g2, rfl, ho, hb⟩
  have c2 := keep1 hb c1
  have HB2 : Hid (Below w.heap.size w w2) := Lib.hid (HB1.out.trans (hb.mono HB1.out.size))
  have hz2 : w.heap.size + 1 ≤ w2.heap.size := Nat.le_trans hz1 hb.size
  have HS2 := Lib.hid (sd_of_own ho HR.out.ok)
  clear hb ho c1 HB1 hz1
  go_wp2_with fail
  refine (SPC.out _ _ _ _ HS2.out).mono ?_
  rintro e w3 ⟨A0, c0, rfl, ho, hb⟩
  have c3 := keep1 hb c2
  have HB3 : Hid (Below w.heap.size w w3) := Lib.hid (HB2.out.trans (hb.mono HB2.out.size))
  have hz3 : w.heap.size + 1 ≤ w3.heap.size := Nat.le_trans hz2 hb.size
  have HX3 := Lib.hid ho
  have hz2' : w2.heap.size ≤ w3.heap.size := hb.size
  clear hb ho c2 HB2 HS2
  go_wp2_with fail
  refine (toEnum_any ds A c n _ ((HR.out.below HB3.out).call HB3.out.size) HN.out).mono ?_
  rintro e w4 ⟨g4, rfl, ho, hb⟩
  have c4 := keep1 hb c3
  have HB4 : Hid (Below w.heap.size w w4) := Lib.hid (HB3.out.trans (hb.mono HB3.out.size))
  have hz4 : w3.heap.size ≤ w4.heap.size := hb.size
  have HX4 := Lib.hid (own_below HX3.out hb)
  have HO4 := Lib.hid ho
  have NX : Hid ((Value.slice A0 ss.length c0).ownBlock = none ∨ (Value.slice A0 ss.length c0).ownBlock ≠ (Value.slice (some ⟨g4, 0, none⟩) n n).ownBlock) := Lib.hid (own_ne HX3.out ho (Nat.le_refl _))
  clear hb ho c3 HB3 HX3
  go_wp2_with fail
  have b5 : Below w4.heap.size w4 (w4.alloc (.cells #[.slice (some ⟨g4, 0, none⟩) n n] 30)) := (Below.refl _ _).alloc (Nat.le_refl _) _
  have c5 := keep1 b5 c4
  have d5 : (w4.alloc (.cells #[.slice (some ⟨g4, 0, none⟩) n n] 30)).cell? ⟨w4.heap.size, 0, none⟩ = some (.slice (some ⟨g4, 0, none⟩) n n) := by simp [go_sem]
  have HO5 := Lib.hid (own_below HO4.out b5)
  have HX5 := Lib.hid (own_below HX4.out b5)
  have HB5 : Hid (Below w.heap.size w (w4.alloc (.cells #[.slice (some ⟨g4, 0, none⟩) n n] 30))) := Lib.hid (HB4.out.trans (b5.mono HB4.out.size))
  refine (IMC.out _ _ _ _ (sd_of_own HO5.out HR.out.ok)).mono ?_
  rintro e w6 ⟨Ag, cg, rfl, hog, hb⟩
  have c6 := keep1 hb c5
  have d6 := keep1 hb d5
  have HO6 := Lib.hid (own_below HO5.out hb)
  have HX6 := Lib.hid (own_below HX5.out hb)
  have HG6 := Lib.hid hog
  have HB6 : Hid (Below w.heap.size w w6) := Lib.hid (HB5.out.trans (hb.mono HB5.out.size))
  have hg4 : g4 < w4.heap.size := (HO4.out.lt g4 rfl).2
  have hg3 : w3.heap.size ≤ g4 := (HO4.out.lt g4 rfl).1
  have hz6 : w4.heap.size + 1 ≤ w6.heap.size := by have := hb.size; simpa using this
  have NXG : Hid ((Value.slice A0 ss.length c0).ownBlock = none ∨ (Value.slice A0 ss.length c0).ownBlock ≠ (Value.slice Ag ss.length cg).ownBlock) := Lib.hid (own_ne HX5.out hog (Nat.le_refl _))
  have NOG : Hid ((Value.slice (some ⟨g4, 0, none⟩) n n).ownBlock = none ∨ (Value.slice (some ⟨g4, 0, none⟩) n n).ownBlock ≠ (Value.slice Ag ss.length cg).ownBlock) := Lib.hid (own_ne HO5.out hog (Nat.le_refl _))
  have LG : Hid (∀ k, (Value.slice Ag ss.length cg).ownBlock = some k → w4.heap.size + 1 ≤ k) := Lib.hid (fun k hk => by have := (hog.lt k hk).1; simpa using this)
  clear hb hog b5 c5 d5 HO5 HX5 HB5 c4 HO4 HX4 HB4
  go_wp2_with fail
  refine (eqIntS_any ss _ _ _ _ _ _ _ (si_of_own HG6.out OKS.out) (si_of_own HX6.out OKS.out)).mono ?_
  rintro e w7 ⟨rfl, hb⟩
  have c7 := keep1 hb c6
  have d7 := keep1 hb d6
  have HO7 := Lib.hid (own_below HO6.out hb)
  have HX7 := Lib.hid (own_below HX6.out hb)
  have HG7 := Lib.hid (own_below HG6.out hb)
  have HB7 : Hid (Below w.heap.size w w7) := Lib.hid (HB6.out.trans (hb.mono HB6.out.size))
  have hz7 : w4.heap.size + 1 ≤ w7.heap.size := Nat.le_trans hz6 hb.size
  have HS7 : Hid (SD w7 w7.heap.size A n c ds) := Lib.hid ((HR.out.below HB7.out).call HB7.out.size)
  clear hb c6 d6 HO6 HX6 HG6 HB6 hz6
  go_wp2_with fail
  generalize hG : w4.heap.size = G at *
  clear hG
  go_region_held3 (fun w' => w'.cell? ⟨w.heap.size, 0, none⟩ = some (.slice A n c) ∧ w'.cell? ⟨G, 0, none⟩ = some (.slice (some ⟨g4, 0, none⟩) n n))
    (first
      | go_keep
      | exact ⟨c8, d8⟩ | exact ⟨c9, d9⟩)
    (first
      | (go_at_call 18; refine (toEnum_any ds A c n _ (by first | exact HS7.out | exact HS7.out.drew | exact HS7.out.drewN _) HN.out).mono ?_; rintro e w8 ⟨g8, rfl, ho8, hb8⟩; replace hb8 : Below w7.heap.size w7 w8 := (by first | exact hb8 | exact undrew hb8); have c8 := keep1 hb8 c7; have d8 := keep1 hb8 d7)
      | (go_at_call 20; refine (eqEnum_any ds _ _ _ _ _ _ _ (by first | exact sd_of_own (own_below HO7.out hb8) HR.out.ok | exact (sd_of_own (own_below HO7.out hb8) HR.out.ok).drew) (by first | exact sd_of_own ho8 HR.out.ok | exact (sd_of_own ho8 HR.out.ok).drew)).mono ?_; rintro e w9 ⟨rfl, hb9⟩; replace hb9 : Below w8.heap.size w8 w9 := (by first | exact hb9 | exact undrew hb9); have c9 := keep1 hb9 c8; have d9 := keep1 hb9 d8))
  have hb79 : Below w7.heap.size w7 w9 := hb8.trans (hb9.mono hb8.size)
  have HO9 := Lib.hid (own_below HO7.out hb79)
  have HX9 := Lib.hid (own_below HX7.out hb79)
  have HG9 := Lib.hid (own_below HG7.out hb79)
  have HB9 : Hid (Below w.heap.size w w9) := Lib.hid (HB7.out.trans (hb79.mono HB7.out.size))
  have hz9 : G + 1 ≤ w9.heap.size := Nat.le_trans hz7 hb79.size
  clear hb8 hb9 hb79 ho8 c7 d7 c8 d8 HO7 HX7 HG7 HB7 HS7 hz7
  go_wp2_with fail
  refine (markEnum_any 1 w3.heap.size _ _ _ _ _ HO9.out (by omega) (by have := HN.out; omega)).mono ?_
  rintro e w10 ⟨rfl, ho, hg⟩
  have c10 := hg.cell c9 (by simp [Value.ownBlock]; omega)
  have HX10 := Lib.hid (HX9.out.kept hg NX.out)
  have HG10 := Lib.hid (HG9.out.kept hg (own_sym NOG.out))
  have HB10 : Hid (Below w.heap.size w w10) := Lib.hid (HB9.out.grown hg HB9.out.size (fun k hk => by simp [Value.ownBlock] at hk; omega))
  have hz10 : G + 1 ≤ w10.heap.size := Nat.le_trans hz9 hg.size
  clear ho hg c9 d9 HO9 HX9 HG9 HB9 hz9
  have hkk : ¬ (1 + 2 * (n : Int) < 0) := by omega
  go_wp2_with fail
  refine (eqIntS_any ss _ _ _ _ _ _ _ (si_of_own HG10.out OKS.out) (si_of_own HX10.out OKS.out)).mono ?_
  rintro e w11 ⟨rfl, hb⟩
  have c11 := keep1 hb c10
  have HX11 := Lib.hid (own_below HX10.out hb)
  have HG11 := Lib.hid (own_below HG10.out hb)
  have HB11 : Hid (Below w.heap.size w w11) := Lib.hid (HB10.out.trans (hb.mono HB10.out.size))
  clear hb c10 HX10 HG10 HB10 hz10
  go_wp2_with fail
  refine (markIntS_any 1 _ _ _ _ _ _ HG11.out (by omega) (by omega)).mono ?_
  rintro e w12 ⟨rfl, ho, hg⟩
  have c12 := hg.cell c11 (fun h => by have := LG.out _ h.symm; simp only at this; omega)
  have HX12 := Lib.hid (HX11.out.kept hg NXG.out)
  have HG12 := Lib.hid ho
  have HB12 : Hid (Below w.heap.size w w12) := Lib.hid (HB11.out.grown hg HB11.out.size (fun k hk => by have := LG.out k hk; omega))
  clear ho hg c11 HX11 HG11 HB11
  go_wp2_with fail
  refine (heldIntS_any 1 _ _ _ _ _ HG12.out (by omega) (by omega)).mono ?_
  rintro e w13 ⟨rfl, hb⟩
  have c13 := keep1 hb c12
  have HX13 := Lib.hid (own_below HX12.out hb)
  have HG13 := Lib.hid (own_below HG12.out hb)
  have HB13 : Hid (Below w.heap.size w w13) := Lib.hid (HB12.out.trans (hb.mono HB12.out.size))
  clear hb c12 HX12 HG12 HB12
  have hqq : ¬ (1 + (ss.length : Int) < 0) := by omega
  go_wp2_with fail
  refine (toEnum_any ds A c n _ ((HR.out.below HB13.out).call HB13.out.size) HN.out).mono ?_
  rintro e w14 ⟨g14, rfl, ho, hb⟩
  have HX14 := Lib.hid (own_below HX13.out hb)
  have HG14 := Lib.hid (own_below HG13.out hb)
  have HB14 : Hid (Below w.heap.size w w14) := Lib.hid (HB13.out.trans (hb.mono HB13.out.size))
  have HS14 := Lib.hid (sd_of_own ho HR.out.ok)
  clear hb ho c13 HX13 HG13 HB13
  go_wp2_with fail
  refine (IMC.out _ _ _ _ HS14.out).mono ?_
  rintro e w15 ⟨Ah, ch, rfl, ho, hb⟩
  have HX15 := Lib.hid (own_below HX14.out hb)
  have HG15 := Lib.hid (own_below HG14.out hb)
  have HH15 := Lib.hid ho
  have HB15 : Hid (Below w.heap.size w w15) := Lib.hid (HB14.out.trans (hb.mono HB14.out.size))
  clear hb ho HX14 HG14 HB14 HS14
  go_wp2_with fail
  refine (eqIntS_any ss _ _ _ _ _ _ _ (si_of_own HH15.out OKS.out) (si_of_own HX15.out OKS.out)).mono ?_
  rintro e w16 ⟨rfl, hb⟩
  have HG16 := Lib.hid (own_below HG15.out hb)
  have HB16 : Hid (Below w.heap.size w w16) := Lib.hid (HB15.out.trans (hb.mono HB15.out.size))
  clear hb HX15 HG15 HH15 HB15
  go_wp2_with fail
  refine (heldIntS_any 1 _ _ _ _ _ HG16.out (by omega) (by omega)).mono ?_
  rintro e w17 ⟨rfl, hb⟩
  have HB17 : Hid (Below w.heap.size w w17) := Lib.hid (HB16.out.trans (hb.mono HB16.out.size))
  clear hb
  go_wp2
  go_ret
  exact ⟨rfl, HB17.out⟩

set_option maxHeartbeats 400000 in
theorem walk (A : Option Addr) (n c : Nat) (ds : List D) (w : World) (hr : SD w w.heap.size A n c ds) :
    Calls Try.prog 12 #[.agg #[.slice A n c]] w fun e w' => e = .returned (.bool true) ∧ Below w.heap.size w w' := by
  exact walkV A n c ds (mGaps ds) w hr (Lib.hid fun A n c w h => specGapsOf_any ds A c n w h) (Lib.hid fun A n c w h => implGapsOf_any ds A c n w h)
    (Lib.hid (mGaps_ok ds)) (by have := mGaps_len ds; omega)

set_option maxRecDepth 100000 in
theorem lifted (os : Os) (started : os.Started) (H : Type) (enc : TypeId × Value → H) :
    ReturnsInHanded {} Try.checked os 12 .any (Rows.fnExactGapsOfSpec.pre6 enc Try.prog Try.f12 Rows.fnExactGapsOfRow.domain false) (Rows.fnExactGapsOfSpec.post enc Try.prog Try.f12 false true false false) := by
  refine returnsInHanded_of_change (C := Try.checked) own started (by kernel_rfl) Try.func12
    (ChangeSpec.witness6 (enc := enc) (C := Try.checked) false ⟨#[], #[.agg #[.slice none 0 0]], []⟩ 8 (by kernel_rfl) (by kernel_rfl) (by kernel_rfl) (by kernel_rfl)) ?_
  intro W base args ds gs before hval0 hW hcnd _
  have hval : ∀ (j : Nat) t v, Try.f12.params[j]? = some t → args[j]? = some v → Value.okWide Try.prog W .any base t v := hval0
  have hW' := hW
  obtain ⟨p, q, hA0, hV, rfl, hfz, hnd⟩ := hW
  have hA : DataW.TrodAll enc Try.prog W 0 (fun _ => true) true Try.f12.params.toList args.toList ds p := hA0
  rw [Try.params12] at hA hval
  obtain ⟨v0, vs0, d0, ds0, p0, q0, hargs, rfl, rfl, h0, r0⟩ := trodAll_cons hA
  obtain ⟨rfl, rfl, rfl⟩ := trodAll_nil r0
  obtain rfl : args = #[v0] := by cases args; simp_all
  obtain ⟨rfl, rfl⟩ := trodVars_none hV
  have k0 := h0
  have lt0 : ∀ x ∈ p0, x.block < W.heap.size := by obtain ⟨m, hm⟩ := k0; exact DataW.trod_lt m _ _ _ hm
  obtain ⟨A0, n0, c0, l0, rfl, w0⟩ := open_enum (hval 0 25 v0 rfl rfl) h0
  clear hA0 hval0
  refine (walk A0 n0 c0 l0 W w0).mono fun e W' ⟨he, bel⟩ => ?_
  subst he
  exact ⟨_, rfl, _, _, _, [], _, [], hW', trodAll_mk1 (shut_bool Try.underlying4 _), (trodAll_cons_mk (Below.trod laidOut (by kernel_rfl) (of_decide_eq_true (by kernel_rfl)) k0 bel lt0) trodAll_mk0), rfl, bel.frame _, fun h => by cases h⟩

theorem over : Rows.fnExactGapsOfRow.holds Try.pinned (OpenSpec.ofChange Rows.fnExactGapsOfSpec) :=
  OpenClaim.holds_of_wide 12 Try.f12 rfl rfl rfl rfl rfl rfl rfl ⟨rfl, rfl, rfl, rfl, rfl⟩ rfl rfl rfl rfl rfl (by kernel_rfl) Try.func12 (by kernel_rfl)
    (of_decide_eq_true (by kernel_rfl)) (by unfold Func.isWrapper; first | (rw [if_pos (by decide +kernel)]; kernel_rfl) | (rw [if_neg (by decide +kernel)]; exact ⟨rfl, rfl⟩))
    (fun os started H enc _ => lifted os started H enc)

theorem proved : Rows.FnExactGapsOfSaid := over
end Go.Proofs.Ythegkilhhdkjcaa.fnExactGapsOf
