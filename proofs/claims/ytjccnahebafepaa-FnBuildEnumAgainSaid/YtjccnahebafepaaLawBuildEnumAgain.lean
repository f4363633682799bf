/-
For every code the law of building again returns true: what the program's BuildEnum answers is built again of its names and values.
Conditions: none.
-/
import Derived.Test.YtjccnahebafepaaLBld
namespace Go.Proofs.Ytjccnahebafepaa.fnBuildEnumAgain
open Go.ChangeShapes Go.WideShapes Go.ChangeAt Go.RowKit
open Go.ChangeMaps (open_string shut_string)
set_option linter.unusedVariables false

set_option maxHeartbeats 8000000 in
theorem walk (A : Option Addr) (n c : Nat) (zs : List Int) (w : World) (h : SB w w.heap.size A n c zs) :
    Calls Try.prog 6 #[.slice A n c] w fun e w' => e = .returned (.bool true) ∧ Below w.heap.size w w' := by
  have hm := h.max
  have hcap := h.cap
  unfold maxLen at hm
  have HS0 := Lib.hid h
  clear h
  by_cases hbig : 1048576 < (n : Int)
  · go_enter Try.func6, Try.ntmps6
    go_wp2
    go_ret
    exact ⟨rfl, Below.refl _ _⟩
  go_enter Try.func6, Try.ntmps6
  go_wp2_with fail
  refine (drawBuildEnum_any A n c zs _ HS0.out).mono ?_
  rintro e w1 ⟨At, ct, ts, rfl, hn, hsm, hs, hb⟩
  have hml := mBuild_len ts
  have OKM := Lib.hid (mBuild_ok (fun t ht => It.small_ok (hsm t ht)))
  have HFIT := Lib.hid (fun h => bfit (ts := ts) h)
  have HSP : Hid (∀ (A : Option Addr) (n c : Nat) (w : World), ST w w.heap.size A n c ts → Calls Try.prog 26 #[.slice A n c] w (BldP ts w)) := Lib.hid fun A n c w h => specBuild_any ts A c n w h
  have HIM : Hid (∀ (A : Option Addr) (n c : Nat) (w : World), ST w w.heap.size A n c ts → Calls Try.prog 25 #[.slice A n c] w (BldP ts w)) := Lib.hid fun A n c w h => implBuild_any ts A c n w h
  unfold BldP at HSP HIM
  generalize mBuild ts = ms at *
  generalize built ts = bb at *
  have HT1 := Lib.hid hs
  have HB1 := Lib.hid hb
  clear hb hs hsm
  go_wp2_with fail
  refine (HIM.out _ _ _ _ HT1.out).mono ?_
  rintro e w2 ⟨Ao, co, rfl, ho, hb⟩
  have HB2 : Hid (Below w.heap.size w w2) := Lib.hid (HB1.out.trans (hb.mono HB1.out.size))
  have b3 : Below w2.heap.size w2 (w2.alloc (.cells #[.slice Ao ms.length co] 28)) := (Below.refl _ _).alloc (Nat.le_refl _) _
  have c3 : (w2.alloc (.cells #[.slice Ao ms.length co] 28)).cell? ⟨w2.heap.size, 0, none⟩ = some (.slice Ao ms.length co) := by simp [go_sem]
  have HB3 : Hid (Below w.heap.size w (w2.alloc (.cells #[.slice Ao ms.length co] 28))) := Lib.hid (HB2.out.trans (b3.mono HB2.out.size))
  have HT3 := Lib.hid ((((HT1.out.below hb).call hb.size).below b3).call b3.size)
  have HO3 := Lib.hid (((sd_of_own ho OKM.out).below b3).call b3.size)
  have hz3 : w2.heap.size + 1 ≤ (w2.alloc (.cells #[.slice Ao ms.length co] 28)).heap.size := by simp
  clear hb ho b3 HB1 HT1 HB2
  go_wp2_with fail
  refine (HSP.out _ _ _ _ HT3.out).mono ?_
  rintro e w4 ⟨Aw, cw, rfl, ho, hb⟩
  have HB4 : Hid (Below w.heap.size w w4) := Lib.hid (HB3.out.trans (hb.mono HB3.out.size))
  have b5 : Below w4.heap.size w4 (w4.alloc (.cells #[.slice Aw ms.length cw] 28)) := (Below.refl _ _).alloc (Nat.le_refl _) _
  have c5 := keep1 b5 (keep1 hb c3)
  have d5 : (w4.alloc (.cells #[.slice Aw ms.length cw] 28)).cell? ⟨w4.heap.size, 0, none⟩ = some (.slice Aw ms.length cw) := by simp [go_sem]
  have HB5 : Hid (Below w.heap.size w (w4.alloc (.cells #[.slice Aw ms.length cw] 28))) := Lib.hid (HB4.out.trans (b5.mono HB4.out.size))
  have HT5 := Lib.hid ((((HT3.out.below hb).call hb.size).below b5).call b5.size)
  have HO5 := Lib.hid ((((HO3.out.below hb).call hb.size).below b5).call b5.size)
  have HW5 := Lib.hid (((sd_of_own ho OKM.out).below b5).call b5.size)
  clear hb ho b5 HB3 HT3 HO3 HB4 c3 hz3
  generalize w2.heap.size = G at *
  go_wp2_with fail
  refine (equalEnum_any ms _ _ _ _ _ _ _ HO5.out HW5.out).mono ?_
  rintro e w6 ⟨rfl, hb⟩
  have c6 := keep1 hb c5
  have d6 := keep1 hb d5
  have HB6 : Hid (Below w.heap.size w w6) := Lib.hid (HB5.out.trans (hb.mono HB5.out.size))
  have HT6 := Lib.hid ((HT5.out.below hb).call hb.size)
  have HO6 := Lib.hid ((HO5.out.below hb).call hb.size)
  have HW6 := Lib.hid ((HW5.out.below hb).call hb.size)
  clear hb c5 d5 HB5 HT5 HO5 HW5
  cases bb
  · go_wp2_with fail
    refine (equalEnum_any ms _ _ _ _ _ _ _ HO6.out HW6.out).mono ?_
    rintro e w7 ⟨rfl, hb⟩
    have HB7 : Hid (Below w.heap.size w w7) := Lib.hid (HB6.out.trans (hb.mono HB6.out.size))
    clear hb
    go_wp2
    go_ret
    exact ⟨rfl, HB7.out⟩
  have HF := Lib.hid (HFIT.out rfl)
  have HAG := Lib.hid (built_again HF.out.ve)
  have HIM2 : Hid (∀ (A : Option Addr) (n c : Nat) (w : World), ST w w.heap.size A n c (again ms) → Calls Try.prog 25 #[.slice A n c] w (BldP (again ms) w)) := Lib.hid fun A n c w h => implBuild_any (again ms) A c n w h
  unfold BldP at HIM2
  rw [HAG.out.1, HAG.out.2] at HIM2
  clear d6 HW6 HIM HSP HAG
  have HO7 : Hid ((w6.alloc (.cells #[] 45)).ownsRow w6.heap.size 45 3 (.slice (some ⟨w6.heap.size, 0, none⟩) 0 0) 0 (flatT (again (ms.take 0)))) := Lib.hid (World.ownsRow_made w6 #[] 0 (Nat.le_refl _) (by unfold maxLen; omega) rfl)
  have HB7 : Hid (Below w6.heap.size w6 (w6.alloc (.cells #[] 45))) := Lib.hid ((Below.refl _ _).alloc (Nat.le_refl _) _)
  go_wp2_with fail
  go_loopw [8, 9] (fun v i wr => ∃ (k : Nat), k ≤ ms.length ∧ i = .int .i64 k ∧ Hid (wr.ownsRow w6.heap.size 45 3 v k (flatT (again (ms.take k)))) ∧ Hid (Below w6.heap.size w6 wr)) (fun _ i _ => ms.length - (intOf i).toNat)
  case atStart => exact ⟨0, Nat.zero_le _, rfl, HO7, HB7⟩
  case round =>
    obtain ⟨k, hk, rfl, hown, hbel⟩ := hrel
    obtain ⟨A', c', rfl⟩ := own_form hown.out
    clear HO7 HB7
    have c7 := keep1 hbel.out c6
    by_cases hlt : k < ms.length
    · obtain ⟨b, o, rfl, hbb, x1, x2⟩ := (HO6.out.below hbel.out).at_ hlt
      have HFL := Lib.hid (flatT_again ms k hlt)
      generalize ms[k].name = nm at *
      generalize ms[k].val = vl at *
      have hi1 : (k : Int) < (ms.length : Int) := by omega
      have hi0 : (0 : Int) ≤ (k : Int) := by omega
      have hz := hbel.out.size
      go_wp2_with fail
      go_region_law (refine step_app_T rfl _ _ rfl w6.heap.size _ _ _ rfl (hown.out.alloc _) _ _ _ _ _ rfl (by first | exact heap_alloc_new wr _ | simp) (by omega) (by simp; omega) ?_; intro v' w8 ho hg)
      go_wp2
      all_goals
        replace hg : (wr.alloc (.cells #[.string nm, .bool false, .int .i64 vl] 45)).drew.grownBy w8 (Value.slice A' k c').ownBlock := hg
        have HLT : Hid (∀ q, (Value.slice A' k c').ownBlock = some q → w6.heap.size ≤ q) := Lib.hid (fun q hq => (hown.out.lt q hq).1)
        have HO8 := Lib.hid ho
        have HB8 : Hid (Below w6.heap.size w6 w8) := Lib.hid ((hbel.out.alloc hbel.out.size _).grown ⟨hg.os, hg.tape, hg.output, hg.size, hg.block⟩ (by simp; omega) HLT.out)
        clear ho hg
        go_roundw
        case rel => exact ⟨k + 1, by omega, by go_num, Lib.hid (by rw [HFL.out]; exact HO8.out), HB8⟩
        case measure => simp [intOf]; omega
    · obtain rfl : k = ms.length := by omega
      have HX : Hid (ST wr wr.heap.size A' ms.length c' (again ms)) := Lib.hid (st_of_own (by have := hown.out; rw [List.take_of_length_le (Nat.le_refl _)] at this; exact this) (again_ok OKM.out))
      have HBw : Hid (Below w.heap.size w wr) := Lib.hid (HB6.out.trans (hbel.out.mono HB6.out.size))
      have HOw := Lib.hid ((HO6.out.below hbel.out).call hbel.out.size)
      clear hown
      go_wp2_with fail
      refine (HIM2.out _ _ _ _ HX.out).mono ?_
      rintro e w8 ⟨A8, c8, rfl, ho, hb⟩
      have b9 : Below w8.heap.size w8 (w8.alloc (.cells #[.slice A8 ms.length c8] 28)) := (Below.refl _ _).alloc (Nat.le_refl _) _
      have c9 := keep1 b9 (keep1 hb c7)
      have d9 : (w8.alloc (.cells #[.slice A8 ms.length c8] 28)).cell? ⟨w8.heap.size, 0, none⟩ = some (.slice A8 ms.length c8) := by simp [go_sem]
      have HB9 : Hid (Below w.heap.size w (w8.alloc (.cells #[.slice A8 ms.length c8] 28))) := Lib.hid ((HBw.out.trans (hb.mono HBw.out.size)).trans (b9.mono (Nat.le_trans HBw.out.size hb.size)))
      have HO9 := Lib.hid ((((HOw.out.below hb).call hb.size).below b9).call b9.size)
      have HH9 := Lib.hid (((sd_of_own ho OKM.out).below b9).call b9.size)
      clear ho hb b9
      go_wp2_with fail
      refine (equalEnum_any ms _ _ _ _ _ _ _ HH9.out HO9.out).mono ?_
      rintro e w10 ⟨rfl, hb⟩
      have HB10 : Hid (Below w.heap.size w w10) := Lib.hid (HB9.out.trans (hb.mono HB9.out.size))
      clear hb
      go_wp2
      go_ret
      exact ⟨rfl, HB10.out⟩

set_option maxRecDepth 100000 in
theorem lifted (os : Os) (started : os.Started) (H : Type) (enc : TypeId × Value → H) :
    ReturnsInHanded {} Try.checked os 6 .any (Rows.fnBuildEnumAgainSpec.pre6 enc Try.prog Try.f6 Rows.fnBuildEnumAgainRow.domain false) (Rows.fnBuildEnumAgainSpec.post enc Try.prog Try.f6 false true false false) := by
  refine returnsInHanded_of_change (C := Try.checked) own started (by kernel_rfl) Try.func6
    (ChangeSpec.witness6 (enc := enc) (C := Try.checked) false ⟨#[], #[.slice none 0 0], []⟩ 8 (by kernel_rfl) (by kernel_rfl) (by kernel_rfl) (by kernel_rfl)) ?_
  intro W base args ds gs before hval0 hW hcnd _
  have hval : ∀ (j : Nat) t v, Try.f6.params[j]? = some t → args[j]? = some v → Value.okWide Try.prog W .any base t v := hval0
  have hW' := hW
  obtain ⟨p, q, hA0, hV, rfl, hfz, hnd⟩ := hW
  have hA : DataW.TrodAll enc Try.prog W 0 (fun _ => true) true Try.f6.params.toList args.toList ds p := hA0
  rw [Try.params6] at hA hval
  obtain ⟨v0, vs0, d0, ds0, p0, q0, hargs, rfl, rfl, h0, r0⟩ := trodAll_cons hA
  obtain ⟨rfl, rfl, rfl⟩ := trodAll_nil r0
  obtain rfl : args = #[v0] := by cases args; simp_all
  obtain ⟨rfl, rfl⟩ := trodVars_none hV
  have k0 := h0
  have lt0 : ∀ x ∈ p0, x.block < W.heap.size := by obtain ⟨m, hm⟩ := k0; exact DataW.trod_lt m _ _ _ hm
  obtain ⟨A0, n0, c0, l0, rfl, w0⟩ := open_code (hval 0 22 v0 rfl rfl) h0
  clear hA0 hval0
  refine (walk A0 n0 c0 l0 W w0).mono fun e W' ⟨he, bel⟩ => ?_
  subst he
  exact ⟨_, rfl, _, _, _, [], _, [], hW', trodAll_mk1 (shut_bool Try.underlying4 _), (trodAll_cons_mk (Below.trod laidOut (by kernel_rfl) (of_decide_eq_true (by kernel_rfl)) k0 bel lt0) trodAll_mk0), rfl, bel.frame _, fun h => by cases h⟩

theorem over : Rows.fnBuildEnumAgainRow.holds Try.pinned (OpenSpec.ofChange Rows.fnBuildEnumAgainSpec) :=
  OpenClaim.holds_of_wide 6 Try.f6 rfl rfl rfl rfl rfl rfl rfl ⟨rfl, rfl, rfl, rfl, rfl⟩ rfl rfl rfl rfl rfl (by kernel_rfl) Try.func6 (by kernel_rfl)
    (of_decide_eq_true (by kernel_rfl)) (by unfold Func.isWrapper; first | (rw [if_pos (by decide +kernel)]; kernel_rfl) | (rw [if_neg (by decide +kernel)]; exact ⟨rfl, rfl⟩))
    (fun os started H enc _ => lifted os started H enc)

theorem proved : Rows.FnBuildEnumAgainSaid := over
end Go.Proofs.Ytjccnahebafepaa.fnBuildEnumAgain
