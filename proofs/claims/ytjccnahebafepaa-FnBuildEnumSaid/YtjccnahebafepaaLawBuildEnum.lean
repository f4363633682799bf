/-
For every code the law of building enumerations returns true: the program's BuildEnum answers as its model, with the names of the items, their values, and for each that is automatic a value greater than all ahead of it.
Conditions: none.
-/
import Derived.Test.YtjccnahebafepaaLBld
namespace Go.Proofs.Ytjccnahebafepaa.fnBuildEnum
open Go.ChangeShapes Go.WideShapes Go.ChangeAt Go.RowKit
open Go.ChangeMaps (open_string shut_string)
set_option linter.unusedVariables false

set_option maxRecDepth 100000 in
set_option maxHeartbeats 8000000 in
theorem walk (A : Option Addr) (n c : Nat) (zs : List Int) (w : World) (h : SB w w.heap.size A n c zs) :
    Calls Try.prog 5 #[.slice A n c] w fun e w' => e = .returned (.bool true) ∧ Below w.heap.size w w' := by
  have hm := h.max
  have hcap := h.cap
  unfold maxLen at hm
  have HS0 := Lib.hid h
  clear h
  by_cases hbig : 1048576 < (n : Int)
  · go_enter Try.func5, Try.ntmps5
    go_wp2
    go_ret
    exact ⟨rfl, Below.refl _ _⟩
  go_enter Try.func5, Try.ntmps5
  go_wp2_with fail
  refine (drawBuildEnum_any A n c zs _ HS0.out).mono ?_
  rintro e w1 ⟨At, ct, ts, rfl, hn, hsm, hs, hb⟩
  have hml := mBuild_len ts
  have OKM := Lib.hid (mBuild_ok (fun t ht => It.small_ok (hsm t ht)))
  have HFIT := Lib.hid (fun h => bfit (ts := ts) h)
  have HSP : Hid (∀ (A : Option Addr) (n c : Nat) (w : World), ST w w.heap.size A n c ts → Calls Try.prog 26 #[.slice A n c] w (BldP ts w)) := Lib.hid fun A n c w h => specBuild_any ts A c n w h
  have HIM : Hid (∀ (A : Option Addr) (n c : Nat) (w : World), ST w w.heap.size A n c ts → Calls Try.prog 25 #[.slice A n c] w (BldP ts w)) := Lib.hid fun A n c w h => implBuild_any ts A c n w h
  unfold BldP at HSP HIM
  generalize mBuild ts = ms at *
  generalize built ts = bb at *
  have HT1 := Lib.hid hs
  have HB1 := Lib.hid hb
  clear hb hs hsm
  go_wp2_with fail
  refine (HIM.out _ _ _ _ HT1.out).mono ?_
  rintro e w2 ⟨Ao, co, rfl, ho, hb⟩
  have HB2 : Hid (Below w.heap.size w w2) := Lib.hid (HB1.out.trans (hb.mono HB1.out.size))
  have b3 : Below w2.heap.size w2 (w2.alloc (.cells #[.slice Ao ms.length co] 28)) := (Below.refl _ _).alloc (Nat.le_refl _) _
  have c3 : (w2.alloc (.cells #[.slice Ao ms.length co] 28)).cell? ⟨w2.heap.size, 0, none⟩ = some (.slice Ao ms.length co) := by simp [go_sem]
  have HB3 : Hid (Below w.heap.size w (w2.alloc (.cells #[.slice Ao ms.length co] 28))) := Lib.hid (HB2.out.trans (b3.mono HB2.out.size))
  have HT3 := Lib.hid ((((HT1.out.below hb).call hb.size).below b3).call b3.size)
  have HO3 := Lib.hid (((sd_of_own ho OKM.out).below b3).call b3.size)
  have hz3 : w2.heap.size + 1 ≤ (w2.alloc (.cells #[.slice Ao ms.length co] 28)).heap.size := by simp
  clear hb ho b3 HB1 HT1 HB2
  go_wp2_with fail
  refine (HSP.out _ _ _ _ HT3.out).mono ?_
  rintro e w4 ⟨Aw, cw, rfl, ho, hb⟩
  have HB4 : Hid (Below w.heap.size w w4) := Lib.hid (HB3.out.trans (hb.mono HB3.out.size))
  have b5 : Below w4.heap.size w4 (w4.alloc (.cells #[.slice Aw ms.length cw] 28)) := (Below.refl _ _).alloc (Nat.le_refl _) _
  have c5 := keep1 b5 (keep1 hb c3)
  have d5 : (w4.alloc (.cells #[.slice Aw ms.length cw] 28)).cell? ⟨w4.heap.size, 0, none⟩ = some (.slice Aw ms.length cw) := by simp [go_sem]
  have HB5 : Hid (Below w.heap.size w (w4.alloc (.cells #[.slice Aw ms.length cw] 28))) := Lib.hid (HB4.out.trans (b5.mono HB4.out.size))
  have HT5 := Lib.hid ((((HT3.out.below hb).call hb.size).below b5).call b5.size)
  have HO5 := Lib.hid ((((HO3.out.below hb).call hb.size).below b5).call b5.size)
  have HW5 := Lib.hid (((sd_of_own ho OKM.out).below b5).call b5.size)
  clear hb ho b5 HB3 HT3 HO3 HB4 c3 hz3
  generalize w2.heap.size = G at *
  go_wp2_with fail
  refine (equalEnum_any ms _ _ _ _ _ _ _ HO5.out HW5.out).mono ?_
  rintro e w6 ⟨rfl, hb⟩
  have c6 := keep1 hb c5
  have d6 := keep1 hb d5
  have HB6 : Hid (Below w.heap.size w w6) := Lib.hid (HB5.out.trans (hb.mono HB5.out.size))
  have HT6 := Lib.hid ((HT5.out.below hb).call hb.size)
  have HO6 := Lib.hid ((HO5.out.below hb).call hb.size)
  have HW6 := Lib.hid ((HW5.out.below hb).call hb.size)
  clear hb c5 d5 HB5 HT5 HO5 HW5
  cases bb
  · go_wp2_with fail
    refine (equalEnum_any ms _ _ _ _ _ _ _ HO6.out HW6.out).mono ?_
    rintro e w7 ⟨rfl, hb⟩
    have HB7 : Hid (Below w.heap.size w w7) := Lib.hid (HB6.out.trans (hb.mono HB6.out.size))
    clear hb
    go_wp2
    go_ret
    exact ⟨rfl, HB7.out⟩
  have HF := Lib.hid (HFIT.out rfl)
  clear d6 HW6
  go_wp2_with fail
  go_loopw [8] (fun i wr => ∃ (k : Nat), k ≤ ts.length ∧ i = .int .i64 k ∧ Hid (Below w.heap.size w wr) ∧ Hid (wr.cell? ⟨G, 0, none⟩ = some (.slice Ao ms.length co)) ∧ Hid (SD wr wr.heap.size Ao ms.length co ms) ∧ Hid (ST wr wr.heap.size At ts.length ct ts)) (fun i _ => ts.length - (intOf i).toNat)
  case atStart => exact ⟨0, Nat.zero_le _, rfl, HB6, Lib.hid c6, HO6, HT6⟩
  case round =>
    obtain ⟨k, hk, rfl, hbel, hce, hsd, hst⟩ := hrel
    have c7 := hce.out
    clear c6 HB6 HO6 HT6
    by_cases hlt : k < ts.length
    · have hltm : k < ms.length := by have := HF.out.len; omega
      obtain ⟨b, o, rfl, hbb, x1, x2⟩ := hsd.out.at_ hltm
      obtain ⟨b2, o2, rfl, hbb2, y1, y2, y3⟩ := hst.out.at_ hlt
      rw [HF.out.name k hltm hlt] at x1
      have HVAL := Lib.hid (HF.out.val k hltm hlt)
      have HUP := Lib.hid (HF.out.up k hltm hlt)
      have hi1 : (k : Int) < (ts.length : Int) := by omega
      have hi2 : (k : Int) < (ms.length : Int) := by omega
      have hi0 : (0 : Int) ≤ (k : Int) := by omega
      have bW : Below wr.heap.size wr (wr.alloc (.cells #[.string ts[k].name, .int .i64 ms[k].val] 43)) := (Below.refl _ _).alloc (Nat.le_refl _) _
      have e0 : (wr.alloc (.cells #[.string ts[k].name, .int .i64 ms[k].val] 43)).cell? ⟨wr.heap.size, 0, none⟩ = some (.string ts[k].name) := by simp [go_sem]
      have e1 : (wr.alloc (.cells #[.string ts[k].name, .int .i64 ms[k].val] 43)).cell? ⟨wr.heap.size, 1, none⟩ = some (.int .i64 ms[k].val) := by simp [go_sem]
      have z1 := keep1 bW y1
      have z2 := keep1 bW y2
      have z3 := keep1 bW y3
      have c8 := keep1 bW c7
      have HB8 : Hid (Below w.heap.size w (wr.alloc (.cells #[.string ts[k].name, .int .i64 ms[k].val] 43))) := Lib.hid (hbel.out.trans (bW.mono hbel.out.size))
      have HO8 := Lib.hid ((hsd.out.below bW).call bW.size)
      have HT8 := Lib.hid ((hst.out.below bW).call bW.size)
      clear bW y1 y2 y3 hbel hce hsd hst
      cases ha : ts[k].auto
      · rw [ha] at z2
        have hv := HVAL.out ha
        rw [← hv] at z3
        clear hv ha HUP HVAL
        go_wp2
        clear x1 x2 c7
        generalize (wr.alloc (.cells #[.string ts[k].name, .int .i64 ms[k].val] 43)) = W at *
        go_quiet (fail)
        have HB9 : Hid (Below w.heap.size w (W.drewN nq)) := Lib.hid (below_drewN HB8.out _)
        have HC9 : Hid ((W.drewN nq).cell? ⟨G, 0, none⟩ = some (.slice (some ⟨b, o, none⟩) ms.length co)) := Lib.hid c8
        have HO9 : Hid (SD (W.drewN nq) (W.drewN nq).heap.size (some ⟨b, o, none⟩) ms.length co ms) := Lib.hid (HO8.out.drewN nq)
        have HT9 : Hid (ST (W.drewN nq) (W.drewN nq).heap.size (some ⟨b2, o2, none⟩) ts.length ct ts) := Lib.hid (HT8.out.drewN nq)
        have t2 : (W.drewN nq).cell? ⟨b2, o2 + k * 3 + 1, none⟩ = some (.bool false) := z2
        clear z1 z2 z3 c8 e0 e1 HB8 HO8 HT8
        generalize W.drewN nq = V at *
        go_wp2
        go_loopw [10] (fun i wq => i = .int .i64 0 ∧ wq = V) (fun i _ => 0)
        case atStart => exact ⟨rfl, rfl⟩
        case round =>
          obtain ⟨rfl, rfl⟩ := hrel
          go_wp2
          all_goals
            go_roundw
            case rel => exact ⟨k + 1, by omega, by go_num, HB9, HC9, HO9, HT9⟩
            case measure => simp [intOf]; omega
      · rw [ha] at z2
        have HU := Lib.hid (HUP.out ha)
        clear ha HUP HVAL
        go_wp2
        clear x1 x2 c7
        generalize hD0 : wr.heap.size = D0 at *
        generalize hvk : ms[k].val = vk at *
        generalize (wr.alloc (.cells #[.string ts[k].name, .int .i64 vk] 43)) = W at *
        go_quiet (fail)
        have HB9 : Hid (Below w.heap.size w (W.drewN nq)) := Lib.hid (below_drewN HB8.out _)
        have HC9 : Hid ((W.drewN nq).cell? ⟨G, 0, none⟩ = some (.slice (some ⟨b, o, none⟩) ms.length co)) := Lib.hid c8
        have HO9 : Hid (SD (W.drewN nq) (W.drewN nq).heap.size (some ⟨b, o, none⟩) ms.length co ms) := Lib.hid (HO8.out.drewN nq)
        have HT9 : Hid (ST (W.drewN nq) (W.drewN nq).heap.size (some ⟨b2, o2, none⟩) ts.length ct ts) := Lib.hid (HT8.out.drewN nq)
        have t2 : (W.drewN nq).cell? ⟨b2, o2 + k * 3 + 1, none⟩ = some (.bool true) := z2
        have t1 : (W.drewN nq).cell? ⟨D0, 1, none⟩ = some (.int .i64 vk) := e1
        clear z1 z2 z3 c8 e0 e1 HB8 HO8 HT8
        generalize W.drewN nq = V at *
        go_wp2
        go_loopw [10] (fun i wq => ∃ m : Nat, m ≤ k ∧ i = .int .i64 m ∧ Hid (Below V.heap.size V wq)) (fun i _ => k - (intOf i).toNat)
        case atStart => exact ⟨0, Nat.zero_le _, rfl, Lib.hid (Below.refl _ _)⟩
        case round =>
          obtain ⟨m, hm2, rfl, hbq⟩ := hrel
          have q2 := keep1 hbq.out t2
          have q1 := keep1 hbq.out t1
          have q3 := keep1 hbq.out HC9.out
          by_cases hlt2 : m < k
          · obtain ⟨b', o', hA, _, _, q4⟩ := (HO9.out.below hbq.out).at_ (show m < ms.length by have := HF.out.len; omega)
            injection hA with hA
            injection hA with hA1 hA2
            subst hA1 hA2
            have hup := HU.out m hlt2
            generalize ms[m].val = vm at *
            have hj1 : (m : Int) < (k : Int) := by omega
            have hj2 : (m : Int) < (ms.length : Int) := by have := HF.out.len; omega
            have hj0 : (0 : Int) ≤ (m : Int) := by omega
            go_wp2
            go_quiet (fail)
            go_wp2
            go_roundw
            case rel => exact ⟨m + 1, by omega, by go_num, Lib.hid (below_drewN hbq.out _)⟩
            case measure => simp [intOf]; omega
          · obtain rfl : m = k := by omega
            go_wp2
            go_roundw
            case rel => exact ⟨m + 1, by omega, by go_num, Lib.hid (HB9.out.trans (hbq.out.mono HB9.out.size)), Lib.hid q3, Lib.hid ((HO9.out.below hbq.out).call hbq.out.size), Lib.hid ((HT9.out.below hbq.out).call hbq.out.size)⟩
            case measure => simp [intOf]; omega
    · obtain rfl : k = ts.length := by omega
      have hqq : ((ms.length : Int) == (ts.length : Int)) = true := by rw [beq_iff_eq]; have := HF.out.len; omega
      go_wp2_with fail
      refine (implVE_v ms _ _ _ _ hsd.out HF.out.ve).mono ?_
      rintro e w9 ⟨rfl, hb⟩
      have c9 := keep1 hb c7
      have HB9 : Hid (Below w.heap.size w w9) := Lib.hid (hbel.out.trans (hb.mono hbel.out.size))
      clear hb
      go_wp2
      go_ret
      exact ⟨rfl, HB9.out⟩

set_option maxRecDepth 100000 in
theorem lifted (os : Os) (started : os.Started) (H : Type) (enc : TypeId × Value → H) :
    ReturnsInHanded {} Try.checked os 5 .any (Rows.fnBuildEnumSpec.pre6 enc Try.prog Try.f5 Rows.fnBuildEnumRow.domain false) (Rows.fnBuildEnumSpec.post enc Try.prog Try.f5 false true false false) := by
  refine returnsInHanded_of_change (C := Try.checked) own started (by kernel_rfl) Try.func5
    (ChangeSpec.witness6 (enc := enc) (C := Try.checked) false ⟨#[], #[.slice none 0 0], []⟩ 8 (by kernel_rfl) (by kernel_rfl) (by kernel_rfl) (by kernel_rfl)) ?_
  intro W base args ds gs before hval0 hW hcnd _
  have hval : ∀ (j : Nat) t v, Try.f5.params[j]? = some t → args[j]? = some v → Value.okWide Try.prog W .any base t v := hval0
  have hW' := hW
  obtain ⟨p, q, hA0, hV, rfl, hfz, hnd⟩ := hW
  have hA : DataW.TrodAll enc Try.prog W 0 (fun _ => true) true Try.f5.params.toList args.toList ds p := hA0
  rw [Try.params5] at hA hval
  obtain ⟨v0, vs0, d0, ds0, p0, q0, hargs, rfl, rfl, h0, r0⟩ := trodAll_cons hA
  obtain ⟨rfl, rfl, rfl⟩ := trodAll_nil r0
  obtain rfl : args = #[v0] := by cases args; simp_all
  obtain ⟨rfl, rfl⟩ := trodVars_none hV
  have k0 := h0
  have lt0 : ∀ x ∈ p0, x.block < W.heap.size := by obtain ⟨m, hm⟩ := k0; exact DataW.trod_lt m _ _ _ hm
  obtain ⟨A0, n0, c0, l0, rfl, w0⟩ := open_code (hval 0 22 v0 rfl rfl) h0
  clear hA0 hval0
  refine (walk A0 n0 c0 l0 W w0).mono fun e W' ⟨he, bel⟩ => ?_
  subst he
  exact ⟨_, rfl, _, _, _, [], _, [], hW', trodAll_mk1 (shut_bool Try.underlying4 _), (trodAll_cons_mk (Below.trod laidOut (by kernel_rfl) (of_decide_eq_true (by kernel_rfl)) k0 bel lt0) trodAll_mk0), rfl, bel.frame _, fun h => by cases h⟩

theorem over : Rows.fnBuildEnumRow.holds Try.pinned (OpenSpec.ofChange Rows.fnBuildEnumSpec) :=
  OpenClaim.holds_of_wide 5 Try.f5 rfl rfl rfl rfl rfl rfl rfl ⟨rfl, rfl, rfl, rfl, rfl⟩ rfl rfl rfl rfl rfl (by kernel_rfl) Try.func5 (by kernel_rfl)
    (of_decide_eq_true (by kernel_rfl)) (by unfold Func.isWrapper; first | (rw [if_pos (by decide +kernel)]; kernel_rfl) | (rw [if_neg (by decide +kernel)]; exact ⟨rfl, rfl⟩))
    (fun os started H enc _ => lifted os started H enc)

theorem proved : Rows.FnBuildEnumSaid := over
end Go.Proofs.Ytjccnahebafepaa.fnBuildEnum
