/-
For every list of items the law on exact answers of BuildEnum returns true: the program's BuildEnum answers as its model does, leaves its arguments as they were, and its answer owns its memory.
Conditions: none.
-/
import Derived.Test.YthegkilhhdkjcaaOpen
import Derived.Test.YthegkilhhdkjcaaItemsC
import Derived.Test.YthegkilhhdkjcaaBldE
namespace Go.Proofs.Ythegkilhhdkjcaa.fnExactBuildEnum
open Go.ChangeShapes Go.WideShapes Go.ChangeAt Go.RowKit
open Go.ChangeMaps (open_string shut_string)
set_option linter.unusedVariables false

section
variable {H : Type} {enc : TypeId × Value → H} {W : World} {base : Nat} {spare : Nat → Bool} {held : Bool}
theorem open_items {r : Reach} {b0 : Nat} {v : Value} {d : DataW H} {p : List MemPlace} (hv : Value.okWide Try.prog W r b0 52 v) (h : DataW.Trod enc Try.prog W base spare held 52 v d p) :
    ∃ (A : Option Addr) (n c : Nat) (ts : List It), v = .slice A n c ∧ ST W W.heap.size A n c ts := by
  obtain ⟨A, n, c, rfl⟩ := okWide_slice Try.underlying52 hv
  obtain ⟨fuel, hf⟩ := h
  refine ⟨A, n, c, ?_⟩
  have hc3 : Try.prog.cellsOf 80 = 3 := by kernel_rfl
  rcases Go.Deep.open_slice Try.underlying52 hf with ⟨h0, _⟩ | ⟨a, len, cap, m, k, Dd, Pl, hcs, hb, hl, hm, hmm, _, hi⟩
  · simp [Value.cells] at h0
    obtain ⟨rfl, rfl, rfl⟩ := h0
    exact ⟨[], rfl, Rd.nil_, rfl, Nat.le_refl _, by unfold maxLen; omega, by simp⟩
  · simp [Value.cells] at hcs
    obtain ⟨rfl, rfl, rfl⟩ := hcs
    have hlm : n ≤ m := by rw [hmm]; split <;> omega
    have hi2 : ∀ i, i < n → ∃ d : It, W.cell? (a.add (i * 3)) = some (.string d.name) ∧ W.cell? (a.add (i * 3 + 1)) = some (.bool d.auto) ∧ W.cell? (a.add (i * 3 + 2)) = some (.int .i64 d.val) ∧ d.ok := by
      intro i hin
      obtain ⟨cs', h1, h2⟩ := hi i (by omega)
      rw [hc3] at h1
      obtain ⟨_, hlen, hcell⟩ := World.cells?_some h1
      obtain ⟨xs, q, hk, hxy, _, hxl, hff⟩ := DataW.trod_struct Try.underlying80 h2
      match xs, hxl, cs', hlen with
      | [y0, y1, y2], _, [v0, v1, v2], _ =>
        have g0 := hff 0 _ rfl
        have g1 := hff 1 _ rfl
        have g2 := hff 2 _ rfl
        have k0 : Try.prog.cellsOf 9 = 1 := by kernel_rfl
        have k1 : Try.prog.cellsOf 4 = 1 := by kernel_rfl
        have k2 : Try.prog.cellsOf 3 = 1 := by kernel_rfl
        simp [k0, k1, k2] at g0 g1 g2
        have e0 := hcell 0 (by omega)
        have e1 := hcell 1 (by omega)
        have e2 := hcell 2 (by omega)
        rw [Go.Deep.add_add] at e0 e1 e2
        obtain ⟨s, q0, _, hs⟩ := DataW.trod_string Try.underlying9 g0
        obtain ⟨bo, q1, _⟩ := DataW.trod_bool Try.underlying4 g1
        obtain ⟨vl, q2, _, hwf⟩ := DataW.trod_int Try.underlying3 g2
        simp at q0 q1 q2
        subst q0 q1 q2
        exact ⟨⟨s, bo, vl⟩, by simpa using e0, by simpa using e1, by simpa using e2, hs, wf_bounds hwf⟩
    obtain ⟨F, hF⟩ : ∃ F : Nat → It, ∀ i, i < n → W.cell? (a.add (i * 3)) = some (.string (F i).name) ∧ W.cell? (a.add (i * 3 + 1)) = some (.bool (F i).auto) ∧ W.cell? (a.add (i * 3 + 2)) = some (.int .i64 (F i).val) ∧ (F i).ok :=
      ⟨fun i => if h : i < n then (hi2 i h).choose else ⟨ByteArray.empty, false, 0⟩, fun i h => by simp only [dif_pos h]; exact (hi2 i h).choose_spec⟩
    refine ⟨(List.range n).map F, rfl, ?_, by simp, hl, hm, ?_⟩
    · rcases Nat.eq_zero_or_pos n with rfl | hpos
      · exact .inl rfl
      · have h0 := (hF 0 hpos).1
        obtain ⟨b, o, spot⟩ := a
        have hspot : spot = none := by simpa [Addr.add] using World.cell?_spot h0
        subst hspot
        refine .inr ⟨b, o, rfl, World.block_lt_of_cell? W _ (by simpa [Addr.add] using h0), fun i x hx j v hj => ?_⟩
        obtain ⟨hil, rfl⟩ := List.getElem?_eq_some_iff.1 hx
        simp at hil
        obtain ⟨q1, q2, q3, _⟩ := hF i hil
        have adds : ∀ k, (⟨b, o, none⟩ : Addr).add k = ⟨b, o + k, none⟩ := fun k => by unfold Addr.add; split <;> simp_all
        rw [adds] at q1 q2 q3
        match j, hj with
        | 0, hj => simp [encT] at hj; subst hj; exact q1
        | 1, hj => simp [encT] at hj; subst hj; exact q2
        | 2, hj => simp [encT] at hj; subst hj; exact q3
        | j + 3, hj => simp [encT] at hj
    · intro d hd
      simp at hd
      obtain ⟨i, hin, rfl⟩ := hd
      exact (hF i hin).2.2.2
end

theorem mBuild_len (ts : List It) : (mBuild ts).length ≤ 12 := by
  unfold mBuild built
  split
  · rename_i h
    simp only [Bool.and_eq_true] at h
    exact vEnum_len h.2
  · simp
theorem mBuild_ok {ts : List It} (h : ∀ t ∈ ts, t.ok) : ∀ d ∈ mBuild ts, d.ok := by
  unfold mBuild
  split
  · exact bld_ok h _ (Nat.le_refl _)
  · intro d hd; cases hd

set_option maxRecDepth 100000 in
set_option maxHeartbeats 8000000 in
theorem walk (A : Option Addr) (n c : Nat) (ts : List It) (w : World) (hr : ST w w.heap.size A n c ts) :
    Calls Try.prog 13 #[.slice A n c] w fun e w' => e = .returned (.bool true) ∧ Below w.heap.size w w' := by
  have hml := mBuild_len ts
  have hmo := mBuild_ok hr.ok
  have HSP : Hid (∀ (A : Option Addr) (n c : Nat) (w : World), ST w w.heap.size A n c ts → Calls Try.prog 45 #[.slice A n c] w (BldP ts w)) := Lib.hid fun A n c w h => specBuild_any ts A c n w h
  have HIM : Hid (∀ (A : Option Addr) (n c : Nat) (w : World), ST w w.heap.size A n c ts → Calls Try.prog 47 #[.slice A n c] w (BldP ts w)) := Lib.hid fun A n c w h => implBuild_any ts A c n w h
  unfold BldP at HSP HIM
  generalize mBuild ts = ms at *
  generalize built ts = bb at *
  have HR := Lib.hid hr
  have OKM := Lib.hid hmo
  clear hr hmo
  go_enter Try.func13, Try.ntmps13
  go_wp2_with fail
  refine (szItemS_any ts A c n 1048576 _ HR.out (by omega) (by omega)).mono ?_
  rintro e w1 ⟨r1, rfl, q0, q1, q2, hb⟩
  have HQ := Lib.hid q2
  have HB1 := Lib.hid hb
  clear hb q2
  by_cases hneg : r1 < 0
  · go_wp2
    go_ret
    exact ⟨rfl, HB1.out⟩
  have HN : Hid (n ≤ 1048576) := Lib.hid (by have := HQ.out (by omega); omega)
  clear HQ
  go_wp2_with fail
  refine (toItemS_any ts A c n _ ((HR.out.below HB1.out).call HB1.out.size) HN.out).mono ?_
  rintro e w2 ⟨g2, rfl, ho, hb⟩
  have HB2 : Hid (Below w.heap.size w w2) := Lib.hid (HB1.out.trans (hb.mono HB1.out.size))
  have HS2 := Lib.hid (st_of_own ho HR.out.ok)
  clear hb ho HB1
  go_wp2_with fail
  refine (HSP.out _ _ _ _ HS2.out).mono ?_
  rintro e w3 ⟨A0, c0, rfl, ho, hb⟩
  have HB3 : Hid (Below w.heap.size w w3) := Lib.hid (HB2.out.trans (hb.mono HB2.out.size))
  have hz3 : w2.heap.size ≤ w3.heap.size := hb.size
  have b4 : Below w3.heap.size w3 (w3.alloc (.cells #[.slice A0 ms.length c0] 30)) := (Below.refl _ _).alloc (Nat.le_refl _) _
  have HX4 := Lib.hid (own_below ho b4)
  have c4 : (w3.alloc (.cells #[.slice A0 ms.length c0] 30)).cell? ⟨w3.heap.size, 0, none⟩ = some (.slice A0 ms.length c0) := by simp [go_sem]
  have HB4 : Hid (Below w.heap.size w (w3.alloc (.cells #[.slice A0 ms.length c0] 30))) := Lib.hid (HB3.out.trans (b4.mono HB3.out.size))
  have hz4 : w3.heap.size + 1 ≤ (w3.alloc (.cells #[.slice A0 ms.length c0] 30)).heap.size := by simp
  have XL : Hid (∀ k, (Value.slice A0 ms.length c0).ownBlock = some k → k < w3.heap.size) := Lib.hid (fun k hk => (ho.lt k hk).2)
  have hw3 : w.heap.size ≤ w3.heap.size := HB3.out.size
  clear hb ho b4 HB2 HS2 HB3
  go_wp2_with fail
  refine (toItemS_any ts A c n _ ((HR.out.below HB4.out).call HB4.out.size) HN.out).mono ?_
  rintro e w5 ⟨g5, rfl, ho, hb⟩
  have c5 := keep1 hb c4
  have HB5 : Hid (Below w.heap.size w w5) := Lib.hid (HB4.out.trans (hb.mono HB4.out.size))
  have hz5 : w3.heap.size + 1 ≤ w5.heap.size := by have := hb.size; omega
  have HX5 := Lib.hid (own_below HX4.out hb)
  have HO5 := Lib.hid ho
  have hg5 : w3.heap.size + 1 ≤ g5 ∧ g5 < w5.heap.size := by have := ho.lt g5 rfl; exact ⟨by simpa using this.1, this.2⟩
  clear hb ho c4 HB4 HX4 hz4
  generalize hGW : w3.heap.size = GW at *
  clear hGW
  go_wp2_with fail
  refine (HIM.out _ _ _ _ (st_of_own HO5.out HR.out.ok)).mono ?_
  rintro e w6 ⟨Ag, cg, rfl, ho, hb⟩
  have HB6 : Hid (Below w.heap.size w w6) := Lib.hid (HB5.out.trans (hb.mono HB5.out.size))
  have hz6 : w5.heap.size ≤ w6.heap.size := hb.size
  have b7 : Below w6.heap.size w6 (w6.alloc (.cells #[.slice Ag ms.length cg] 30)) := (Below.refl _ _).alloc (Nat.le_refl _) _
  have c7 := keep1 b7 (keep1 hb c5)
  have d7 : (w6.alloc (.cells #[.slice Ag ms.length cg] 30)).cell? ⟨w6.heap.size, 0, none⟩ = some (.slice Ag ms.length cg) := by simp [go_sem]
  have HX7 := Lib.hid (own_below (own_below HX5.out hb) b7)
  have HO7 := Lib.hid (own_below (own_below HO5.out hb) b7)
  have HG7 := Lib.hid (own_below ho b7)
  have HB7 : Hid (Below w.heap.size w (w6.alloc (.cells #[.slice Ag ms.length cg] 30))) := Lib.hid (HB6.out.trans (b7.mono HB6.out.size))
  have GL : Hid (∀ k, (Value.slice Ag ms.length cg).ownBlock = some k → w5.heap.size ≤ k ∧ k < w6.heap.size) := Lib.hid (fun k hk => ho.lt k hk)
  have hz7 : w6.heap.size + 1 ≤ (w6.alloc (.cells #[.slice Ag ms.length cg] 30)).heap.size := by simp
  clear hb ho b7 c5 HB5 HX5 HO5 HB6
  go_wp2_with fail
  refine (eqEnum_any ms _ _ _ _ _ _ _ (sd_of_own HG7.out OKM.out) (sd_of_own HX7.out OKM.out)).mono ?_
  rintro e w8 ⟨rfl, hb⟩
  have c8 := keep1 hb c7
  have d8 := keep1 hb d7
  have HX8 := Lib.hid (own_below HX7.out hb)
  have HO8 := Lib.hid (own_below HO7.out hb)
  have HG8 := Lib.hid (own_below HG7.out hb)
  have HB8 : Hid (Below w.heap.size w w8) := Lib.hid (HB7.out.trans (hb.mono HB7.out.size))
  have hz8 : w6.heap.size + 1 ≤ w8.heap.size := by have := hb.size; omega
  clear hb c7 d7 HX7 HO7 HG7 HB7 hz7
  generalize hGG : w6.heap.size = GG at *
  clear hGG
  go_wp2_with fail
  refine (toItemS_any ts A c n _ ((HR.out.below HB8.out).call HB8.out.size) HN.out).mono ?_
  rintro e w9 ⟨g9, rfl, ho, hb⟩
  have c9 := keep1 hb c8
  have d9 := keep1 hb d8
  have HX9 := Lib.hid (own_below HX8.out hb)
  have HO9 := Lib.hid (own_below HO8.out hb)
  have HG9 := Lib.hid (own_below HG8.out hb)
  have HB9 : Hid (Below w.heap.size w w9) := Lib.hid (HB8.out.trans (hb.mono HB8.out.size))
  have HS9 := Lib.hid (st_of_own ho HR.out.ok)
  clear hb ho c8 d8 HX8 HO8 HG8 HB8
  go_wp2_with fail
  refine (eqItemS_any ts _ _ _ _ _ _ _ (st_of_own HO9.out HR.out.ok) HS9.out).mono ?_
  rintro e w10 ⟨rfl, hb⟩
  have c10 := keep1 hb c9
  have d10 := keep1 hb d9
  have HX10 := Lib.hid (own_below HX9.out hb)
  have HO10 := Lib.hid (own_below HO9.out hb)
  have HG10 := Lib.hid (own_below HG9.out hb)
  have HB10 : Hid (Below w.heap.size w w10) := Lib.hid (HB9.out.trans (hb.mono HB9.out.size))
  clear hb c9 d9 HX9 HO9 HG9 HB9 HS9
  go_wp2_with fail
  refine (markItemS_any 1 _ _ _ _ _ _ HO10.out (by omega) (by have := HN.out; omega)).mono ?_
  rintro e w11 ⟨rfl, _, hg⟩
  have c11 := hg.cell c10 (by simp [Value.ownBlock]; omega)
  have d11 := hg.cell d10 (by simp [Value.ownBlock]; omega)
  have HX11 := Lib.hid (HX10.out.kept hg (by
    cases h : (Value.slice A0 ms.length c0).ownBlock with
    | none => exact .inl rfl
    | some k => exact .inr (fun e => by have := XL.out k h; simp [Value.ownBlock] at e; omega)))
  have HG11 := Lib.hid (HG10.out.kept hg (by
    cases h : (Value.slice Ag ms.length cg).ownBlock with
    | none => exact .inl rfl
    | some k => exact .inr (fun e => by have := GL.out k h; simp [Value.ownBlock] at e; omega)))
  have HB11 : Hid (Below w.heap.size w w11) := Lib.hid (HB10.out.grown hg HB10.out.size (fun k hk => by simp [Value.ownBlock] at hk; omega))
  clear hg c10 d10 HX10 HO10 HG10 HB10
  have hkk : ¬ (1 + 3 * (n : Int) < 0) := by omega
  go_wp2_with fail
  refine (eqEnum_any ms _ _ _ _ _ _ _ (sd_of_own HG11.out OKM.out) (sd_of_own HX11.out OKM.out)).mono ?_
  rintro e w12 ⟨rfl, hb⟩
  have c12 := keep1 hb c11
  have d12 := keep1 hb d11
  have HX12 := Lib.hid (own_below HX11.out hb)
  have HG12 := Lib.hid (own_below HG11.out hb)
  have HB12 : Hid (Below w.heap.size w w12) := Lib.hid (HB11.out.trans (hb.mono HB11.out.size))
  clear hb c11 d11 HX11 HG11 HB11
  go_wp2_with fail
  refine (markEnum_any 1 _ _ _ _ _ _ HG12.out (by omega) (by omega)).mono ?_
  rintro e w13 ⟨rfl, ho, hg⟩
  have c13 := hg.cell c12 (fun h => by have := GL.out _ h.symm; simp only at this; omega)
  have d13 := hg.cell d12 (fun h => by have := GL.out _ h.symm; simp only at this; omega)
  have HX13 := Lib.hid (HX12.out.kept hg (by
    cases h : (Value.slice A0 ms.length c0).ownBlock with
    | none => exact .inl rfl
    | some k => exact .inr (fun e => by have := XL.out k h; have := GL.out k e.symm; omega)))
  have HG13 := Lib.hid ho
  have HB13 : Hid (Below w.heap.size w w13) := Lib.hid (HB12.out.grown hg HB12.out.size (fun k hk => by have := GL.out k hk; omega))
  clear ho hg c12 d12 HX12 HG12 HB12
  go_wp2_with fail
  refine (heldEnum_any 1 _ _ _ _ _ HG13.out (by omega) (by omega)).mono ?_
  rintro e w14 ⟨rfl, hb⟩
  have c14 := keep1 hb c13
  have d14 := keep1 hb d13
  have HX14 := Lib.hid (own_below HX13.out hb)
  have HG14 := Lib.hid (own_below HG13.out hb)
  have HB14 : Hid (Below w.heap.size w w14) := Lib.hid (HB13.out.trans (hb.mono HB13.out.size))
  clear hb c13 d13 HX13 HG13 HB13
  have hqq : ¬ (1 + 2 * (ms.length : Int) < 0) := by omega
  go_wp2_with fail
  refine (toItemS_any ts A c n _ ((HR.out.below HB14.out).call HB14.out.size) HN.out).mono ?_
  rintro e w15 ⟨g15, rfl, ho, hb⟩
  have c15 := keep1 hb c14
  have d15 := keep1 hb d14
  have HX15 := Lib.hid (own_below HX14.out hb)
  have HG15 := Lib.hid (own_below HG14.out hb)
  have HB15 : Hid (Below w.heap.size w w15) := Lib.hid (HB14.out.trans (hb.mono HB14.out.size))
  have HS15 := Lib.hid (st_of_own ho HR.out.ok)
  clear hb ho c14 d14 HX14 HG14 HB14
  go_wp2_with fail
  refine (HIM.out _ _ _ _ HS15.out).mono ?_
  rintro e w16 ⟨Ah, ch, rfl, ho, hb⟩
  have HB16 : Hid (Below w.heap.size w w16) := Lib.hid (HB15.out.trans (hb.mono HB15.out.size))
  have b17 : Below w16.heap.size w16 (w16.alloc (.cells #[.slice Ah ms.length ch] 30)) := (Below.refl _ _).alloc (Nat.le_refl _) _
  have c17 := keep1 b17 (keep1 hb c15)
  have d17 := keep1 b17 (keep1 hb d15)
  have e17 : (w16.alloc (.cells #[.slice Ah ms.length ch] 30)).cell? ⟨w16.heap.size, 0, none⟩ = some (.slice Ah ms.length ch) := by simp [go_sem]
  have HX17 := Lib.hid (own_below (own_below HX15.out hb) b17)
  have HG17 := Lib.hid (own_below (own_below HG15.out hb) b17)
  have HH17 := Lib.hid (own_below ho b17)
  have HB17 : Hid (Below w.heap.size w (w16.alloc (.cells #[.slice Ah ms.length ch] 30))) := Lib.hid (HB16.out.trans (b17.mono HB16.out.size))
  clear hb ho b17 c15 d15 HX15 HG15 HB15 HS15 HB16
  go_wp2_with fail
  refine (eqEnum_any ms _ _ _ _ _ _ _ (sd_of_own HH17.out OKM.out) (sd_of_own HX17.out OKM.out)).mono ?_
  rintro e w18 ⟨rfl, hb⟩
  have d18 := keep1 hb d17
  have HG18 := Lib.hid (own_below HG17.out hb)
  have HB18 : Hid (Below w.heap.size w w18) := Lib.hid (HB17.out.trans (hb.mono HB17.out.size))
  clear hb c17 d17 e17 HX17 HG17 HH17 HB17
  go_wp2_with fail
  refine (heldEnum_any 1 _ _ _ _ _ HG18.out (by omega) (by omega)).mono ?_
  rintro e w19 ⟨rfl, hb⟩
  have HB19 : Hid (Below w.heap.size w w19) := Lib.hid (HB18.out.trans (hb.mono HB18.out.size))
  clear hb
  go_wp2
  go_ret
  exact ⟨rfl, HB19.out⟩

set_option maxRecDepth 100000 in
theorem lifted (os : Os) (started : os.Started) (H : Type) (enc : TypeId × Value → H) :
    ReturnsInHanded {} Try.checked os 13 .any (Rows.fnExactBuildEnumSpec.pre6 enc Try.prog Try.f13 Rows.fnExactBuildEnumRow.domain false) (Rows.fnExactBuildEnumSpec.post enc Try.prog Try.f13 false true false false) := by
  refine returnsInHanded_of_change (C := Try.checked) own started (by kernel_rfl) Try.func13
    (ChangeSpec.witness6 (enc := enc) (C := Try.checked) false ⟨#[], #[.slice none 0 0], []⟩ 8 (by kernel_rfl) (by kernel_rfl) (by kernel_rfl) (by kernel_rfl)) ?_
  intro W base args ds gs before hval0 hW hcnd _
  have hval : ∀ (j : Nat) t v, Try.f13.params[j]? = some t → args[j]? = some v → Value.okWide Try.prog W .any base t v := hval0
  have hW' := hW
  obtain ⟨p, q, hA0, hV, rfl, hfz, hnd⟩ := hW
  have hA : DataW.TrodAll enc Try.prog W 0 (fun _ => true) true Try.f13.params.toList args.toList ds p := hA0
  rw [Try.params13] at hA hval
  obtain ⟨v0, vs0, d0, ds0, p0, q0, hargs, rfl, rfl, h0, r0⟩ := trodAll_cons hA
  obtain ⟨rfl, rfl, rfl⟩ := trodAll_nil r0
  obtain rfl : args = #[v0] := by cases args; simp_all
  obtain ⟨rfl, rfl⟩ := trodVars_none hV
  have k0 := h0
  have lt0 : ∀ x ∈ p0, x.block < W.heap.size := by obtain ⟨m, hm⟩ := k0; exact DataW.trod_lt m _ _ _ hm
  obtain ⟨A0, n0, c0, l0, rfl, w0⟩ := open_items (hval 0 52 v0 rfl rfl) h0
  clear hA0 hval0
  refine (walk A0 n0 c0 l0 W w0).mono fun e W' ⟨he, bel⟩ => ?_
  subst he
  exact ⟨_, rfl, _, _, _, [], _, [], hW', trodAll_mk1 (shut_bool Try.underlying4 _), (trodAll_cons_mk (Below.trod laidOut (by kernel_rfl) (of_decide_eq_true (by kernel_rfl)) k0 bel lt0) trodAll_mk0), rfl, bel.frame _, fun h => by cases h⟩

theorem over : Rows.fnExactBuildEnumRow.holds Try.pinned (OpenSpec.ofChange Rows.fnExactBuildEnumSpec) :=
  OpenClaim.holds_of_wide 13 Try.f13 rfl rfl rfl rfl rfl rfl rfl ⟨rfl, rfl, rfl, rfl, rfl⟩ rfl rfl rfl rfl rfl (by kernel_rfl) Try.func13 (by kernel_rfl)
    (of_decide_eq_true (by kernel_rfl)) (by unfold Func.isWrapper; first | (rw [if_pos (by decide +kernel)]; kernel_rfl) | (rw [if_neg (by decide +kernel)]; exact ⟨rfl, rfl⟩))
    (fun os started H enc _ => lifted os started H enc)

theorem proved : Rows.FnExactBuildEnumSaid := over
end Go.Proofs.Ythegkilhhdkjcaa.fnExactBuildEnum
