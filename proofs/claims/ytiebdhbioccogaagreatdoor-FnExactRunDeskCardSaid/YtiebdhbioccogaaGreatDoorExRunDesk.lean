/-
For every text and every list of texts the law on exact answers of RunDesk returns true: the program's RunDesk answers as its model does, and leaves its arguments as they were.
Conditions: none.
-/
import Derived.Test.YtiebdhbioccogaaGreatDoorFlagX
import Derived.Deep.DeepCutAuto
import Derived.Test.YtiebdhbioccogaaGreatDoorDkD
import Derived.Test.YtiebdhbioccogaaGreatDoorDkT
import Derived.Test.YtiebdhbioccogaaGreatDoorDkK
import Derived.Test.YtiebdhbioccogaaGreatDoorOpenT
namespace Go.Proofs.YtiebdhbioccogaaGreatDoor.fnExactRunDesk
open Go.ChangeShapes Go.WideShapes Go.ChangeAt Go.RowKit
open Go.ChangeMaps (open_string shut_string)
set_option linter.unusedVariables false
set_option maxRecDepth 100000

set_option maxHeartbeats 16000000 in
theorem walkV (sa : ByteArray) (Ab : Option Addr) (nb cb : Nat) (ssb : List ByteArray) (r0 : ByteArray) (w : World) (hsa : sa.size ≤ maxLen) (hrb : SS w w.heap.size Ab nb cb ssb)
    (SPC : Hid (∀ (Ab : Option Addr) (nb cb : Nat) (w : World), SS w w.heap.size Ab nb cb ssb → nb ≤ 1048576 → sa.size ≤ 1048576 → (∀ x ∈ ssb, x.size ≤ 1048576) → Calls Tryz.prog 6 #[.string sa, .slice Ab nb cb] w (fun e w' => e = .returned (.string r0) ∧ Below w.heap.size w w')))
    (IMC : Hid (∀ (Ab : Option Addr) (nb cb : Nat) (w : World), SS w w.heap.size Ab nb cb ssb → nb ≤ 1048576 → sa.size ≤ 1048576 → (∀ x ∈ ssb, x.size ≤ 1048576) → Tb w w.heap.size → Calls Tryz.prog 8 #[.string sa, .slice Ab nb cb] w (fun e w' => e = .returned (.string r0) ∧ Below w.heap.size w w'))) (hTAB : Hid (Tb w w.heap.size)) :
    Calls Tryz.prog 3 #[.string sa, .slice Ab nb cb] w fun e w' => e = .returned (.bool true) ∧ Below w.heap.size w w' := by
  have hb : Below w.heap.size w w := Below.refl _ _
  have HRb := Lib.hid hrb
  clear hrb
  have HB_0 := Lib.hid hb
  clear hb
  unfold maxLen at hsa
  by_cases hbiga : 1048576 < (sa.size : Int)
  · go_enter Tryz.func3, Tryz.ntmps3
    go_wp2
    go_ret
    skip
    exact ⟨rfl, HB_0.out⟩
  go_enter Tryz.func3, Tryz.ntmps3
  go_wp2_with fail
  refine (szStringS_sz ssb Ab cb nb 1048576 _ ((HRb.out.below HB_0.out).call HB_0.out.size) (by omega) (by omega)).mono ?_
  rintro e w1 ⟨rb, rfl, rab, rbb, rcb, hb⟩
  have hs1 : w.heap.size ≤ w1.heap.size := hb.size
  have HB_1 : Hid (Below w.heap.size w w1) := Lib.hid (HB_0.out.trans (hb.mono HB_0.out.size))
  have HQb := Lib.hid rcb
  clear hb rcb HB_0
  by_cases hnegb : rb < 0
  · go_wp2
    go_ret
    exact ⟨rfl, HB_1.out⟩
  have HZb : Hid (∀ x ∈ ssb, x.size ≤ 1048576) := Lib.hid (fun x hx => by have := (HQb.out (by omega)).2 x hx; omega)
  have HNb : Hid (nb ≤ 1048576) := Lib.hid (by have := (HQb.out (by omega)).1; omega)
  clear HQb
  go_wp2_with fail
  refine (toStringS_any ssb Ab cb nb _ ((HRb.out.below HB_1.out).call HB_1.out.size) HNb.out).mono ?_
  rintro e w2 ⟨rfl, ho, hb⟩
  have hs2 : w1.heap.size ≤ w2.heap.size := hb.size
  have HB_2 : Hid (Below w.heap.size w w2) := Lib.hid (HB_1.out.trans (hb.mono HB_1.out.size))
  have Tb_2 : Hid (w2.ownsRow w1.heap.size 9 1 (.slice (some ⟨w1.heap.size, 0, none⟩) nb nb) nb (flatS ssb)) := Lib.hid ho
  have TbL : Hid (∀ q, (Value.slice (some ⟨w1.heap.size, 0, none⟩) nb nb).ownBlock = some q → w1.heap.size ≤ q ∧ q < w2.heap.size) := Lib.hid (fun q hq => ho.lt q hq)
  clear ho hb HB_1
  go_wp2_with fail
  refine (SPC.out _ _ _ _ (ss_of_own Tb_2.out HRb.out.ok) HNb.out (by omega) HZb.out).mono ?_
  rintro e w3 ⟨rfl, hb⟩
  have hs3 : w2.heap.size ≤ w3.heap.size := hb.size
  have Tb_3 := Lib.hid (own_below Tb_2.out hb)
  have HB_3 : Hid (Below w.heap.size w w3) := Lib.hid (HB_2.out.trans (hb.mono HB_2.out.size))
  clear hb  Tb_2 HB_2
  clear Tb_3
  go_wp2_with fail
  refine (toStringS_any ssb Ab cb nb _ ((HRb.out.below HB_3.out).call HB_3.out.size) HNb.out).mono ?_
  rintro e w4 ⟨rfl, ho, hb⟩
  have hs4 : w3.heap.size ≤ w4.heap.size := hb.size
  have HB_4 : Hid (Below w.heap.size w w4) := Lib.hid (HB_3.out.trans (hb.mono HB_3.out.size))
  have Xb_4 : Hid (w4.ownsRow w3.heap.size 9 1 (.slice (some ⟨w3.heap.size, 0, none⟩) nb nb) nb (flatS ssb)) := Lib.hid ho
  have XbL : Hid (∀ q, (Value.slice (some ⟨w3.heap.size, 0, none⟩) nb nb).ownBlock = some q → w3.heap.size ≤ q ∧ q < w4.heap.size) := Lib.hid (fun q hq => ho.lt q hq)
  clear ho hb HB_3
  go_wp2_with fail
  refine (IMC.out _ _ _ _ (ss_of_own Xb_4.out HRb.out.ok) HNb.out (by omega) HZb.out ((hTAB.out.below HB_4.out).call HB_4.out.size)).mono ?_
  rintro e w5 ⟨rfl, hb⟩
  have hs5 : w4.heap.size ≤ w5.heap.size := hb.size
  have Xb_5 := Lib.hid (own_below Xb_4.out hb)
  have HB_5 : Hid (Below w.heap.size w w5) := Lib.hid (HB_4.out.trans (hb.mono HB_4.out.size))
  clear hb  Xb_4 HB_4
  go_wp2_with fail
  refine (toStringS_any ssb Ab cb nb _ ((HRb.out.below HB_5.out).call HB_5.out.size) HNb.out).mono ?_
  rintro e w6 ⟨rfl, ho, hb⟩
  have hs6 : w5.heap.size ≤ w6.heap.size := hb.size
  have Xb_6 := Lib.hid (own_below Xb_5.out hb)
  have HB_6 : Hid (Below w.heap.size w w6) := Lib.hid (HB_5.out.trans (hb.mono HB_5.out.size))
  have Vb_6 : Hid (w6.ownsRow w5.heap.size 9 1 (.slice (some ⟨w5.heap.size, 0, none⟩) nb nb) nb (flatS ssb)) := Lib.hid ho
  have VbL : Hid (∀ q, (Value.slice (some ⟨w5.heap.size, 0, none⟩) nb nb).ownBlock = some q → w5.heap.size ≤ q ∧ q < w6.heap.size) := Lib.hid (fun q hq => ho.lt q hq)
  clear ho hb Xb_5 HB_5
  go_wp2_with fail
  refine (eqStringS_any ssb _ _ _ _ _ _ _ (ss_of_own Xb_6.out HRb.out.ok) (ss_of_own Vb_6.out HRb.out.ok)).mono ?_
  rintro e w7 ⟨rfl, hb⟩
  have hs7 : w6.heap.size ≤ w7.heap.size := hb.size
  have Xb_7 := Lib.hid (own_below Xb_6.out hb)
  have Vb_7 := Lib.hid (own_below Vb_6.out hb)
  have HB_7 : Hid (Below w.heap.size w w7) := Lib.hid (HB_6.out.trans (hb.mono HB_6.out.size))
  clear hb  Xb_6 Vb_6 HB_6
  clear Vb_7
  go_wp2
  go_ret
  exact ⟨rfl, HB_7.out⟩

theorem walk (sa : ByteArray) (Ab : Option Addr) (nb cb : Nat) (ssb : List ByteArray) (w : World) (hsa : sa.size ≤ maxLen) (hrb : SS w w.heap.size Ab nb cb ssb) (hT : TabAt w) :
    Calls Tryz.prog 3 #[.string sa, .slice Ab nb cb] w fun e w' => e = .returned (.bool true) ∧ Below w.heap.size w w' := by
  exact walkV sa Ab nb cb ssb (mDesk sa ssb) w hsa hrb (Lib.hid fun A n c w h hn hs hz => specDesk_v sa ssb A n c w h hs hz) (Lib.hid fun A n c w h hn hs hz ht => implDesk_v sa ssb A n c w h hs hz ht) (Lib.hid hT)

set_option maxRecDepth 100000 in
theorem lifted (os : Os) (started : os.Started) (H : Type) (enc : TypeId × Value → H) :
    ReturnsInHanded {} Tryz.checked os 3 .any (fun w args => (Rows.fnExactRunDeskSpec.pre enc Tryz.prog Tryz.f3 [] false w args ∧ laidMetH Tryz.prog laidL w) ∧ sizedMet enc Tryz.prog Tryz.f3 (OpenSpec.ofChange Rows.fnExactRunDeskSpec) false w args) (Rows.fnExactRunDeskSpec.post enc Tryz.prog Tryz.f3 false true false false) := by
  refine handed_shaped (C := Tryz.checked) (X := fun w _ => laidMetH Tryz.prog laidL w) (fun _ _ _ hh h => h.of_heap hh) own started (by kernel_rfl) Tryz.func3
    (ChangeSpec.witness_shaped (enc := enc) (C := Tryz.checked) (os := os) (X := fun w _ => laidMetH Tryz.prog laidL w) false (deskWorld os) #[.string ByteArray.empty, .slice none 0 0] 8 (deskWorld_os _) (World.shaped_of_ZipB (by kernel_rfl) (by kernel_rfl)) (by kernel_rfl) (by kernel_rfl) (by kernel_rfl) (door_met os _)) ?_
  intro W base args ds gs before hval0 hW hcnd hL hsh
  have hval : ∀ (j : Nat) t v, Tryz.f3.params[j]? = some t → args[j]? = some v → Value.okWide Tryz.prog W .any base t v := hval0
  have hW' := hW
  obtain ⟨p, q, hA0, hV, rfl, hfz, hnd⟩ := hW
  have hA : DataW.TrodAll enc Tryz.prog W 0 (fun _ => true) true Tryz.f3.params.toList args.toList ds p := hA0
  rw [Tryz.params3] at hA hval
  obtain ⟨v0, vs0, d0, ds0, p0, q0, hargs, rfl, rfl, h0, r0⟩ := trodAll_cons hA
  obtain ⟨v1, vs1, d1, ds1, p1, q1, rfl, rfl, rfl, h1, r1⟩ := trodAll_cons r0
  obtain ⟨rfl, rfl, rfl⟩ := trodAll_nil r1
  obtain rfl : args = #[v0, v1] := by cases args; simp_all
  obtain ⟨rfl, rfl⟩ := trodVars_none hV
  obtain ⟨a0, rfl, rfl, rfl, w0⟩ := open_string Tryz.underlying9 (hval 0 9 v0 rfl rfl) h0
  have k1 := h1
  have lt1 : ∀ x ∈ p1, x.block < W.heap.size := by obtain ⟨m, hm⟩ := k1; exact DataW.trod_lt m _ _ _ hm
  obtain ⟨A1, n1, c1, l1, rfl, w1⟩ := open_strs (hval 1 22 v1 rfl rfl) h1
  clear hA0 hval0
  refine (walk a0 A1 n1 c1 l1 W w0 w1 (tab_of_laid hL hsh)).mono fun e W' ⟨he, bel⟩ => ?_
  subst he
  exact ⟨_, rfl, _, _, _, [], _, [], hW', trodAll_mk1 (shut_bool Tryz.underlying4 _), (trodAll_cons_mk (shut_string Tryz.underlying9 w0) (trodAll_cons_mk (Below.trod laidOut (by kernel_rfl) (of_decide_eq_true (by kernel_rfl)) k1 bel lt1) trodAll_mk0)), rfl, bel.frame _, fun h => by cases h⟩

theorem over : Rows.fnExactRunDeskRow.holds Tryz.pinned (OpenSpec.ofChange Rows.fnExactRunDeskSpec) :=
  OpenClaim.holds_of_wide 3 Tryz.f3 rfl rfl rfl rfl rfl rfl rfl ⟨rfl, rfl, rfl, rfl, rfl⟩ rfl rfl rfl rfl rfl (by kernel_rfl) Tryz.func3 (by kernel_rfl)
    (of_decide_eq_true (by kernel_rfl)) (by unfold Func.isWrapper; first | (rw [if_pos (by decide +kernel)]; kernel_rfl) | (rw [if_neg (by decide +kernel)]; exact ⟨rfl, rfl⟩))
    (fun os started H enc _ => lifted os started H enc)

theorem proved : Rows.FnExactRunDeskCardSaid :=
  Claim7.holds_tied_plain_at .later [] laidK true _ true
    over (fun _ h => by cases h) (by kernel_rfl) (fun _ h => by cases h) fnExactRunDesk_row_tie rfl ⟨rfl, rfl⟩ (by kernel_rfl) rfl
    (fun f fn hf hfn => by
      obtain rfl : f = 3 := (Option.some.inj ((show Tryz.prog.funcNamed "loop.example/namedflags/laws.FnExactRunDesk" = some 3 by kernel_rfl).symm.trans hf)).symm
      obtain rfl : fn = Tryz.f3 := (Option.some.inj (Tryz.func3.symm.trans hfn)).symm
      exact ⟨by kernel_rfl, fun j t ht => by
        have hm := Array.mem_of_getElem? ht
        have hall : (List.all (Array.toList Tryz.f3.params) fun u => !Tryz.prog.wantsStandIn u) = true := by kernel_rfl
        exact (show Tryz.prog.wantsStandIn t = false by simpa using List.all_eq_true.1 hall t (by simpa using hm))⟩)
    (by kernel_rfl)
end Go.Proofs.YtiebdhbioccogaaGreatDoor.fnExactRunDesk
