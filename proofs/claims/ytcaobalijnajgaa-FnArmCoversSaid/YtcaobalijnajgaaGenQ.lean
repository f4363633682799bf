import Derived.Test.YtcaobalijnajgaaGenZ
namespace Go.Proofs.Ytcaobalijnajgaa
open Go.RowKit
set_option linter.unusedVariables false
set_option linter.unusedSimpArgs false
set_option maxRecDepth 100000

set_option maxHeartbeats 4000000 in
theorem drawArmsMeet_any (A : Option Addr) (n c : Nat) (zs : List Int) (w : World) (h : SB w w.heap.size A n c zs) :
    Calls Try.prog 22 #[.slice A n c] w (DrawFAA w) := by
  have HS := Lib.hid h
  clear h
  go_enter Try.func22, Try.ntmps22
  go_wp2_with fail
  refine (newReader_any A n c zs _ ((HS.out.allocA _ _).allocF _)).mono ?_
  rintro e w1 ⟨R, A1, cb, z1, rfl, hR, hr, hb⟩
  have hRl : w.heap.size + 3 ≤ R := by simpa using hR
  have r0 : w.heap.size ≠ R := by omega
  have r1 : w.heap.size + 1 ≠ R := by omega
  have r2 : w.heap.size + 1 + 1 ≠ R := by omega
  have HC1 : Hid (C2 w1 w.heap.size (.slice none 0 0) (.int .i64 0)) := Lib.hid ((((c2New _ _ _ _).below ((Below.refl _ _).alloc (Nat.le_refl _) _)).below ((Below.refl _ _).alloc (Nat.le_refl _) _)).below hb)
  have HE1 : Hid (C2 w1 (w.heap.size + 1) (.int .i64 0) (.int .i64 0)) := Lib.hid (((c2New' _ _ _ _ _).below ((Below.refl _ _).alloc (Nat.le_refl _) _)).below hb)
  have HH0 : C2 (((w.alloc (.cells #[.slice none 0 0, .int .i64 0] 25)).alloc (.cells #[.int .i64 0, .int .i64 0] 27)).alloc (.cells #[.int .i64 0, .int .i64 0] 27)) (w.heap.size + 1 + 1) (.int .i64 0) (.int .i64 0) := by
    have := c2New ((w.alloc (.cells #[.slice none 0 0, .int .i64 0] 25)).alloc (.cells #[.int .i64 0, .int .i64 0] 27)) (.int .i64 0) (.int .i64 0) 27
    simpa using this
  have HH1 := Lib.hid (HH0.below hb)
  have HB : Hid (Below w.heap.size w w1) := Lib.hid (((((Below.refl _ _).alloc (Nat.le_refl _) _).alloc (by simp) _).alloc (by simp; omega) _).trans (hb.mono (by simp; omega)))
  have HR1 := Lib.hid hr
  clear hr hb hR HH0
  go_wp2_with fail
  refine (twoArms_any R _ A1 cb z1 0 _ HR1.out (by omega)).mono ?_
  rintro e w2 ⟨A', c', ds, b, x, y, x2, y2, rfl, hn, hsm, hbd, hx, hy, hx2, hy2, hown, hg⟩
  have HC2 := Lib.hid (HC1.out.grown hg (by simpa using r0))
  have HE2 := Lib.hid (HE1.out.grown hg (by simpa using r1))
  have HH2 := Lib.hid (HH1.out.grown hg (by simpa using r2))
  have HG2 : Hid (w1.grownBy w2 (some R)) := Lib.hid hg
  have HO2 := Lib.hid hown
  have HSM := Lib.hid hsm
  have HBD := Lib.hid hbd
  have HR2l : Hid (R < w1.heap.size) := Lib.hid HR1.out.lt
  have NO0 : Hid ((Value.slice A' ds.length c').ownBlock ≠ some w.heap.size) := Lib.hid (fun e => by have := (HO2.out.lt _ e).1; have := HR2l.out; omega)
  have NO1 : Hid ((Value.slice A' ds.length c').ownBlock ≠ some (w.heap.size + 1)) := Lib.hid (fun e => by have := (HO2.out.lt _ e).1; have := HR2l.out; omega)
  have NO2 : Hid ((Value.slice A' ds.length c').ownBlock ≠ some (w.heap.size + 1 + 1)) := Lib.hid (fun e => by have := (HO2.out.lt _ e).1; have := HR2l.out; omega)
  clear hg hown hsm hbd HC1 HE1 HH1 HR1
  have z01 : w.heap.size ≠ w.heap.size + 1 := by omega
  have z02 : w.heap.size ≠ w.heap.size + 1 + 1 := by omega
  have z10 : w.heap.size + 1 ≠ w.heap.size := by omega
  have z12 : w.heap.size + 1 ≠ w.heap.size + 1 + 1 := by omega
  have z20 : w.heap.size + 1 + 1 ≠ w.heap.size := by omega
  have z21 : w.heap.size + 1 + 1 ≠ w.heap.size + 1 := by omega
  have qq0 : w.heap.size ≤ w.heap.size := Nat.le_refl _
  have qq1 : w.heap.size ≤ w.heap.size + 1 := by omega
  have qq2 : w.heap.size ≤ w.heap.size + 1 + 1 := by omega
  obtain ⟨c0, c1, cf0, cf1⟩ := HC2.out
  obtain ⟨e0, e1, ef0, ef1⟩ := HE2.out
  obtain ⟨h0, h1, hf0, hf1⟩ := HH2.out
  go_wp2
  obtain ⟨W, hW⟩ : ∃ W : World, W = ((((((w2.setCell ⟨w.heap.size, 0, none⟩ (.slice A' ds.length c')).setCell ⟨w.heap.size, 1, none⟩ (.int .i64 b)).setCell ⟨w.heap.size + 1, 0, none⟩ (.int .i64 x)).setCell ⟨w.heap.size + 1, 1, none⟩ (.int .i64 y)).setCell ⟨w.heap.size + 1 + 1, 0, none⟩ (.int .i64 x2)).setCell ⟨w.heap.size + 1 + 1, 1, none⟩ (.int .i64 y2)) := ⟨_, rfl⟩
  have yC : C2 W w.heap.size (.slice A' ds.length c') (.int .i64 b) := by rw [hW]; exact ((((((HC2.out.set0 _).set1 _).setO z10 _).setO z10 _).setO z20 _).setO z20 _)
  have yE : C2 W (w.heap.size + 1) (.int .i64 x) (.int .i64 y) := by rw [hW]; exact ((((((HE2.out.setO z01 _).setO z01 _).set0 _).set1 _).setO z21 _).setO z21 _)
  have yH : C2 W (w.heap.size + 1 + 1) (.int .i64 x2) (.int .i64 y2) := by rw [hW]; exact ((((((HH2.out.setO z02 _).setO z02 _).setO z12 _).setO z12 _).set0 _).set1 _)
  have yO : SD W W.heap.size A' ds.length c' ds := by rw [hW]; exact sd_of_own (own_setCell (own_setCell (own_setCell (own_setCell (own_setCell (own_setCell (HO2.out) NO0.out _) NO0.out _) NO1.out _) NO1.out _) NO2.out _) NO2.out _) (fun d hd => small_ok (HSM.out d hd))
  have yB : Below w.heap.size w W := by rw [hW]; exact (((((((HB.out.grown HG2.out HB.out.size (fun k hk => by cases hk; omega))).setCell (by exact qq0) _).setCell (by exact qq0) _).setCell (by exact qq1) _).setCell (by exact qq1) _).setCell (by exact qq2) _).setCell (by exact qq2) _
  rw [← hW]
  clear hW
  obtain ⟨y0, y1, _, _⟩ := yC
  obtain ⟨y2', y3, _, _⟩ := yE
  obtain ⟨y4, y5, _, _⟩ := yH
  refine bodyPost_ret (v := .tuple #[.agg #[.slice A' ds.length c', .int .i64 b], .agg #[.int .i64 x, .int .i64 y], .agg #[.int .i64 x2, .int .i64 y2]]) (by simp [results, Try.results22, go_sem, y0, y1, y2', y3, y4, y5]) rfl ⟨A', c', ds, b, _, _, _, _, rfl, hn, HSM.out, HBD.out, hx, hy, hx2, hy2, yO, yB⟩
set_option maxHeartbeats 4000000 in
theorem drawArmCovers_any (A : Option Addr) (n c : Nat) (zs : List Int) (w : World) (h : SB w w.heap.size A n c zs) :
    Calls Try.prog 26 #[.slice A n c] w (DrawFAA w) := by
  have HS := Lib.hid h
  clear h
  go_enter Try.func26, Try.ntmps26
  go_wp2_with fail
  refine (newReader_any A n c zs _ ((HS.out.allocA _ _).allocF _)).mono ?_
  rintro e w1 ⟨R, A1, cb, z1, rfl, hR, hr, hb⟩
  have hRl : w.heap.size + 3 ≤ R := by simpa using hR
  have r0 : w.heap.size ≠ R := by omega
  have r1 : w.heap.size + 1 ≠ R := by omega
  have r2 : w.heap.size + 1 + 1 ≠ R := by omega
  have HC1 : Hid (C2 w1 w.heap.size (.slice none 0 0) (.int .i64 0)) := Lib.hid ((((c2New _ _ _ _).below ((Below.refl _ _).alloc (Nat.le_refl _) _)).below ((Below.refl _ _).alloc (Nat.le_refl _) _)).below hb)
  have HE1 : Hid (C2 w1 (w.heap.size + 1) (.int .i64 0) (.int .i64 0)) := Lib.hid (((c2New' _ _ _ _ _).below ((Below.refl _ _).alloc (Nat.le_refl _) _)).below hb)
  have HH0 : C2 (((w.alloc (.cells #[.slice none 0 0, .int .i64 0] 25)).alloc (.cells #[.int .i64 0, .int .i64 0] 27)).alloc (.cells #[.int .i64 0, .int .i64 0] 27)) (w.heap.size + 1 + 1) (.int .i64 0) (.int .i64 0) := by
    have := c2New ((w.alloc (.cells #[.slice none 0 0, .int .i64 0] 25)).alloc (.cells #[.int .i64 0, .int .i64 0] 27)) (.int .i64 0) (.int .i64 0) 27
    simpa using this
  have HH1 := Lib.hid (HH0.below hb)
  have HB : Hid (Below w.heap.size w w1) := Lib.hid (((((Below.refl _ _).alloc (Nat.le_refl _) _).alloc (by simp) _).alloc (by simp; omega) _).trans (hb.mono (by simp; omega)))
  have HR1 := Lib.hid hr
  clear hr hb hR HH0
  go_wp2_with fail
  refine (twoArms_any R _ A1 cb z1 0 _ HR1.out (by omega)).mono ?_
  rintro e w2 ⟨A', c', ds, b, x, y, x2, y2, rfl, hn, hsm, hbd, hx, hy, hx2, hy2, hown, hg⟩
  have HC2 := Lib.hid (HC1.out.grown hg (by simpa using r0))
  have HE2 := Lib.hid (HE1.out.grown hg (by simpa using r1))
  have HH2 := Lib.hid (HH1.out.grown hg (by simpa using r2))
  have HG2 : Hid (w1.grownBy w2 (some R)) := Lib.hid hg
  have HO2 := Lib.hid hown
  have HSM := Lib.hid hsm
  have HBD := Lib.hid hbd
  have HR2l : Hid (R < w1.heap.size) := Lib.hid HR1.out.lt
  have NO0 : Hid ((Value.slice A' ds.length c').ownBlock ≠ some w.heap.size) := Lib.hid (fun e => by have := (HO2.out.lt _ e).1; have := HR2l.out; omega)
  have NO1 : Hid ((Value.slice A' ds.length c').ownBlock ≠ some (w.heap.size + 1)) := Lib.hid (fun e => by have := (HO2.out.lt _ e).1; have := HR2l.out; omega)
  have NO2 : Hid ((Value.slice A' ds.length c').ownBlock ≠ some (w.heap.size + 1 + 1)) := Lib.hid (fun e => by have := (HO2.out.lt _ e).1; have := HR2l.out; omega)
  clear hg hown hsm hbd HC1 HE1 HH1 HR1
  have z01 : w.heap.size ≠ w.heap.size + 1 := by omega
  have z02 : w.heap.size ≠ w.heap.size + 1 + 1 := by omega
  have z10 : w.heap.size + 1 ≠ w.heap.size := by omega
  have z12 : w.heap.size + 1 ≠ w.heap.size + 1 + 1 := by omega
  have z20 : w.heap.size + 1 + 1 ≠ w.heap.size := by omega
  have z21 : w.heap.size + 1 + 1 ≠ w.heap.size + 1 := by omega
  have qq0 : w.heap.size ≤ w.heap.size := Nat.le_refl _
  have qq1 : w.heap.size ≤ w.heap.size + 1 := by omega
  have qq2 : w.heap.size ≤ w.heap.size + 1 + 1 := by omega
  obtain ⟨c0, c1, cf0, cf1⟩ := HC2.out
  obtain ⟨e0, e1, ef0, ef1⟩ := HE2.out
  obtain ⟨h0, h1, hf0, hf1⟩ := HH2.out
  go_wp2
  obtain ⟨W, hW⟩ : ∃ W : World, W = ((((((w2.setCell ⟨w.heap.size, 0, none⟩ (.slice A' ds.length c')).setCell ⟨w.heap.size, 1, none⟩ (.int .i64 b)).setCell ⟨w.heap.size + 1, 0, none⟩ (.int .i64 x)).setCell ⟨w.heap.size + 1, 1, none⟩ (.int .i64 y)).setCell ⟨w.heap.size + 1 + 1, 0, none⟩ (.int .i64 x2)).setCell ⟨w.heap.size + 1 + 1, 1, none⟩ (.int .i64 y2)) := ⟨_, rfl⟩
  have yC : C2 W w.heap.size (.slice A' ds.length c') (.int .i64 b) := by rw [hW]; exact ((((((HC2.out.set0 _).set1 _).setO z10 _).setO z10 _).setO z20 _).setO z20 _)
  have yE : C2 W (w.heap.size + 1) (.int .i64 x) (.int .i64 y) := by rw [hW]; exact ((((((HE2.out.setO z01 _).setO z01 _).set0 _).set1 _).setO z21 _).setO z21 _)
  have yH : C2 W (w.heap.size + 1 + 1) (.int .i64 x2) (.int .i64 y2) := by rw [hW]; exact ((((((HH2.out.setO z02 _).setO z02 _).setO z12 _).setO z12 _).set0 _).set1 _)
  have yO : SD W W.heap.size A' ds.length c' ds := by rw [hW]; exact sd_of_own (own_setCell (own_setCell (own_setCell (own_setCell (own_setCell (own_setCell (HO2.out) NO0.out _) NO0.out _) NO1.out _) NO1.out _) NO2.out _) NO2.out _) (fun d hd => small_ok (HSM.out d hd))
  have yB : Below w.heap.size w W := by rw [hW]; exact (((((((HB.out.grown HG2.out HB.out.size (fun k hk => by cases hk; omega))).setCell (by exact qq0) _).setCell (by exact qq0) _).setCell (by exact qq1) _).setCell (by exact qq1) _).setCell (by exact qq2) _).setCell (by exact qq2) _
  rw [← hW]
  clear hW
  obtain ⟨y0, y1, _, _⟩ := yC
  obtain ⟨y2', y3, _, _⟩ := yE
  obtain ⟨y4, y5, _, _⟩ := yH
  refine bodyPost_ret (v := .tuple #[.agg #[.slice A' ds.length c', .int .i64 b], .agg #[.int .i64 x, .int .i64 y], .agg #[.int .i64 x2, .int .i64 y2]]) (by simp [results, Try.results26, go_sem, y0, y1, y2', y3, y4, y5]) rfl ⟨A', c', ds, b, _, _, _, _, rfl, hn, HSM.out, HBD.out, hx, hy, hx2, hy2, yO, yB⟩
end Go.Proofs.Ytcaobalijnajgaa
