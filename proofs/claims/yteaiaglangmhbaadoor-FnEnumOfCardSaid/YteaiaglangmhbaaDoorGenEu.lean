import Derived.Test.YteaiaglangmhbaaDoorGenG
namespace Go.Proofs.YteaiaglangmhbaaDoor
open Go.RowKit
set_option linter.unusedVariables false
set_option maxRecDepth 100000

set_option maxHeartbeats 2000000 in
theorem drawEnumOf_any (A : Option Addr) (n c : Nat) (zs : List Int) (w : World) (h : SB w w.heap.size A n c zs) :
    Calls Tryd.prog 15 #[.slice A n c] w (DrawF w) := by
  have HS := Lib.hid h
  clear h
  go_enter Tryd.func15, Tryd.ntmps15
  go_wp2_with fail
  refine (newReader_any A n c zs _ (HS.out.allocF _)).mono ?_
  rintro e w1 ⟨R, A1, cb, z1, rfl, hR, hr, hb⟩
  have hwR : w.heap.size ≠ R := by simp at hR; omega
  have HC1 : Hid (C2 w1 w.heap.size (.slice none 0 0) (.int .i64 0)) := Lib.hid ((c2New _ _ _ _).below hb)
  have HB : Hid (Below w.heap.size w w1) := Lib.hid (((Below.refl _ _).alloc (Nat.le_refl _) _).trans (hb.mono (by simp)))
  have HR1 := Lib.hid hr
  have hRl : w.heap.size + 1 ≤ R := by simpa using hR
  clear hr hb hR
  go_wp2_with fail
  refine (someFlag_any R _ A1 cb z1 0 _ HR1.out (by omega)).mono ?_
  rintro e w2 ⟨A', c', ds, b, p', rfl, hn, hsm, hbd, hown, hp', hg, hr⟩
  have HC2 := Lib.hid (HC1.out.grown hg (by simpa using hwR))
  have HG2 : Hid (w1.grownBy w2 (some R)) := Lib.hid hg
  have HO2 := Lib.hid hown
  have HSM := Lib.hid hsm
  have HBD := Lib.hid hbd
  have HR2 := Lib.hid hr
  have HR2l : Hid (R < w1.heap.size) := Lib.hid HR1.out.lt
  clear hg hr hown hsm hbd HC1 HR1
  obtain ⟨c0, c1, f0, f1⟩ := HC2.out
  go_wp2
  refine bodyPost_ret (v := .agg #[.slice A' ds.length c', .int .i64 b]) (by simp [results, Tryd.results15, go_sem, c0, c1]) rfl ⟨A', c', ds, b, rfl, hn, HSM.out, HBD.out, ?_, ?_⟩
  · exact sd_of_own (own_setCell (own_setCell HO2.out (fun e => by have := (HO2.out.lt _ e).1; have := HR2l.out; simp only at *; omega) _) (fun e => by have := (HO2.out.lt _ e).1; have := HR2l.out; simp only at *; omega) _) (fun d hd => small_ok (HSM.out d hd))
  · exact ((HB.out.grown HG2.out HB.out.size (fun k hk => by cases hk; omega)).setCell (Nat.le_refl _) _).setCell (Nat.le_refl _) _
end Go.Proofs.YteaiaglangmhbaaDoor
