/-
For every code the law of other names returns true: the program's OtherNames answers as its model, and each of them has the value of the name, and the same other names.
Conditions: none.
-/
import Derived.Test.YtjccnahebafepaaLBase
import Derived.Test.YtjccnahebafepaaNmOf
namespace Go.Proofs.Ytjccnahebafepaa.fnOtherNames
open Go.ChangeShapes Go.WideShapes Go.ChangeAt Go.RowKit
open Go.ChangeMaps (open_string shut_string)
set_option linter.unusedVariables false

/-- What is so of the other names of s. -/
def Fit (ds : List D) (s : ByteArray) (ms : List ByteArray) : Prop :=
  vEnum ds = true ∧ ∃ k, ∃ hk : k < ds.length, fidx (isNm s) ds = (k : Int) ∧ ∀ t ∈ ms, ∃ i, ∃ hi : i < ds.length, fidx (isNm t) ds = (i : Int) ∧ ds[i].val = ds[k].val ∧ mOthers ds t = ms
theorem fit {ds : List D} {s : ByteArray} (h : mOthers ds s ≠ []) : Fit ds s (mOthers ds s) := by
  have hv : vEnum ds = true := by
    cases e : vEnum ds
    · exact absurd (mOthers_no (.inl e)) h
    · rfl
  rcases fidx_cases (isNm s) ds with ⟨h1, _⟩ | ⟨k, hk, h1, _⟩
  · exact absurd (mOthers_no (.inr (by omega))) h
  obtain ⟨j, hj, hf, he, _, _⟩ := first_of k hk
  refine ⟨hv, k, hk, h1, ?_⟩
  rw [mOthers_yes hv k hk h1 j hf]
  intro t ht
  obtain ⟨i, hi, e1, e2, _⟩ := othTo_mem ds ds[k].val j ds.length (Nat.le_refl _) t ht
  subst e1
  refine ⟨i, hi, name_idx hv i hi, e2, ?_⟩
  rw [mOthers_yes hv i hi (name_idx hv i hi) j (by rw [e2]; exact hf), e2]

set_option maxHeartbeats 8000000 in
theorem walk (A : Option Addr) (n c : Nat) (zs : List Int) (w : World) (h : SB w w.heap.size A n c zs) :
    Calls Try.prog 10 #[.slice A n c] w fun e w' => e = .returned (.bool true) ∧ Below w.heap.size w w' := by
  have hm := h.max
  have hcap := h.cap
  unfold maxLen at hm
  have HS0 := Lib.hid h
  clear h
  by_cases hbig : 1048576 < (n : Int)
  · go_enter Try.func10, Try.ntmps10
    go_wp2
    go_ret
    exact ⟨rfl, Below.refl _ _⟩
  go_enter Try.func10, Try.ntmps10
  go_wp2_with fail
  refine (drawOtherNames_any A n c zs _ HS0.out).mono ?_
  rintro e w1 ⟨Ae, ce, ds, s, rfl, hsz, hn, hsm, hs, hb⟩
  have c2 : (w1.alloc (.cells #[.slice Ae ds.length ce] 28)).cell? ⟨w1.heap.size, 0, none⟩ = some (.slice Ae ds.length ce) := by simp [go_sem]
  have HB2 : Hid (Below w.heap.size w (w1.alloc (.cells #[.slice Ae ds.length ce] 28))) := Lib.hid (hb.alloc hb.size _)
  have HS2 : Hid (SD (w1.alloc (.cells #[.slice Ae ds.length ce] 28)) (w1.alloc (.cells #[.slice Ae ds.length ce] 28)).heap.size Ae ds.length ce ds) := Lib.hid ((hs.alloc (Nat.le_refl _) _).call (by simp))
  have HSM := Lib.hid hsm
  have HOK : Hid (∀ d ∈ ds, d.ok) := Lib.hid (fun d hd => small_ok (hsm d hd))
  clear hb hs hsm
  have hml := mOthers_len ds s
  have hfit := fun h => fit (ds := ds) (s := s) h
  generalize hms : mOthers ds s = ms at hml hfit
  have HMS := Lib.hid hms
  have HFIT := Lib.hid hfit
  have HOM : Hid (∀ t ∈ ms, t.size ≤ maxLen) := Lib.hid (by rw [← hms]; exact mOthers_ok HOK.out)
  clear hms hfit
  by_cases hz : ms.length = 0
  · have hz1 : ((ms.length : Int) == 0) = true := by rw [beq_iff_eq]; omega
    clear hz
    go_wp2_with fail
    refine (implOther_v ds s _ _ _ _ HS2.out HMS.out).mono ?_
    rintro e w3 ⟨A3, d3, rfl, ho, hb⟩
    have c3 := keep1 hb c2
    have HB3 : Hid (Below w.heap.size w w3) := Lib.hid (HB2.out.trans (hb.mono HB2.out.size))
    have HS3 := Lib.hid ((HS2.out.below hb).call hb.size)
    have HX3 := Lib.hid (ss_of_own ho HOM.out)
    clear ho hb c2 HB2 HS2
    go_wp2_with fail
    refine (specOther_v ds s _ _ _ _ HS3.out HMS.out).mono ?_
    rintro e w4 ⟨A4, d4, rfl, ho, hb⟩
    have c4 := keep1 hb c3
    have HB4 : Hid (Below w.heap.size w w4) := Lib.hid (HB3.out.trans (hb.mono HB3.out.size))
    have HS4 := Lib.hid ((HS3.out.below hb).call hb.size)
    have HY4 := Lib.hid (ss_of_own ho HOM.out)
    have HX4 := Lib.hid ((HX3.out.below hb).call hb.size)
    clear HX3
    clear ho hb c3 HB3 HS3
    go_wp2_with fail
    refine (equalTexts_any ms _ _ _ _ _ _ _ HX4.out HY4.out).mono ?_
    rintro e w5 ⟨rfl, hb⟩
    have c5 := keep1 hb c4
    have HB5 : Hid (Below w.heap.size w w5) := Lib.hid (HB4.out.trans (hb.mono HB4.out.size))
    have HS5 := Lib.hid ((HS4.out.below hb).call hb.size)
    have HX5 := Lib.hid ((HX4.out.below hb).call hb.size)
    clear hb c4 HB4 HS4 HX4 HY4
    go_wp2_with fail
    refine (specOther_v ds s _ _ _ _ HS5.out HMS.out).mono ?_
    rintro e w6 ⟨A6, d6, rfl, ho, hb⟩
    have c6 := keep1 hb c5
    have HB6 : Hid (Below w.heap.size w w6) := Lib.hid (HB5.out.trans (hb.mono HB5.out.size))
    have HS6 := Lib.hid ((HS5.out.below hb).call hb.size)
    have HY6 := Lib.hid (ss_of_own ho HOM.out)
    have HX6 := Lib.hid ((HX5.out.below hb).call hb.size)
    clear HX5
    clear ho hb c5 HB5 HS5
    go_wp2_with fail
    refine (equalTexts_any ms _ _ _ _ _ _ _ HX6.out HY6.out).mono ?_
    rintro e w7 ⟨rfl, hb⟩
    have c7 := keep1 hb c6
    have HB7 : Hid (Below w.heap.size w w7) := Lib.hid (HB6.out.trans (hb.mono HB6.out.size))
    have HS7 := Lib.hid ((HS6.out.below hb).call hb.size)
    have HX7 := Lib.hid ((HX6.out.below hb).call hb.size)
    clear hb c6 HB6 HS6 HX6 HY6
    go_wp2
    go_ret
    exact ⟨rfl, HB7.out⟩

  have hz1 : ((ms.length : Int) == 0) = false := by rw [beq_eq_false_iff_ne]; omega
  have hpos : 0 < ms.length := by omega
  obtain ⟨hv, k0, hk0, hx, hall⟩ := HFIT.out (List.length_pos_iff.1 hpos)
  have HV := Lib.hid hv
  have HX0 := Lib.hid hx
  have HALL := Lib.hid hall
  clear hv hx hall hz
  go_wp2_with fail
  refine (implOther_v ds s _ _ _ _ HS2.out HMS.out).mono ?_
  rintro e w3 ⟨A3, d3, rfl, ho, hb⟩
  have c3 := keep1 hb c2
  have HB3 : Hid (Below w.heap.size w w3) := Lib.hid (HB2.out.trans (hb.mono HB2.out.size))
  have HS3 := Lib.hid ((HS2.out.below hb).call hb.size)
  have HX3 := Lib.hid (ss_of_own ho HOM.out)
  clear ho hb c2 HB2 HS2
  go_wp2_with fail
  refine (specOther_v ds s _ _ _ _ HS3.out HMS.out).mono ?_
  rintro e w4 ⟨A4, d4, rfl, ho, hb⟩
  have c4 := keep1 hb c3
  have HB4 : Hid (Below w.heap.size w w4) := Lib.hid (HB3.out.trans (hb.mono HB3.out.size))
  have HS4 := Lib.hid ((HS3.out.below hb).call hb.size)
  have HY4 := Lib.hid (ss_of_own ho HOM.out)
  have HX4 := Lib.hid ((HX3.out.below hb).call hb.size)
  clear HX3
  clear ho hb c3 HB3 HS3
  go_wp2_with fail
  refine (equalTexts_any ms _ _ _ _ _ _ _ HX4.out HY4.out).mono ?_
  rintro e w5 ⟨rfl, hb⟩
  have c5 := keep1 hb c4
  have HB5 : Hid (Below w.heap.size w w5) := Lib.hid (HB4.out.trans (hb.mono HB4.out.size))
  have HS5 := Lib.hid ((HS4.out.below hb).call hb.size)
  have HX5 := Lib.hid ((HX4.out.below hb).call hb.size)
  clear hb c4 HB4 HS4 HX4 HY4
  go_wp2_with fail
  refine (implValueOf_yes ds s _ _ _ _ HS5.out HV.out k0 hk0 HX0.out).mono ?_
  rintro e w6 ⟨rfl, hb⟩
  have c6 := keep1 hb c5
  have HB6 : Hid (Below w.heap.size w w6) := Lib.hid (HB5.out.trans (hb.mono HB5.out.size))
  have HS6 := Lib.hid ((HS5.out.below hb).call hb.size)
  have HX6 := Lib.hid ((HX5.out.below hb).call hb.size)
  clear hb c5 HB5 HS5 HX5
  generalize hval : ds[k0].val = val at HALL
  clear hval
  go_wp2_with fail
  generalize hG : w1.heap.size = G at *
  clear hG
  go_loopw [8] (fun i wr => ∃ (k : Nat), k ≤ ms.length ∧ i = .int .i64 k ∧ Hid (Below w.heap.size w wr) ∧ Hid (wr.cell? ⟨G, 0, none⟩ = some (.slice Ae ds.length ce)) ∧ Hid (SD wr wr.heap.size Ae ds.length ce ds) ∧ Hid (SS wr wr.heap.size A3 ms.length d3 ms)) (fun i _ => ms.length - (intOf i).toNat)
  case atStart => exact ⟨0, Nat.zero_le _, rfl, HB6, Lib.hid c6, HS6, HX6⟩
  case round =>
    obtain ⟨k, hk, rfl, hbel, hce, hsd, hss⟩ := hrel
    have c7 := hce.out
    clear c6 HB6 HS6 HX6
    by_cases hlt : k < ms.length
    · obtain ⟨b, o, rfl, hbb, x7⟩ := hss.out.at_ hlt
      obtain ⟨i, hi, hti, hvi, hoi⟩ := HALL.out _ (List.getElem_mem hlt)
      generalize ms[k] = t at *
      have HT := Lib.hid hti
      have HO := Lib.hid hoi
      have q2 : (ds[i].val == val) = true := by rw [beq_iff_eq]; exact hvi
      have q3 : (ds[i].val != val) = false := by rw [bne_eq_false_iff_eq]; exact hvi
      have hi1 : (k : Int) < (ms.length : Int) := by omega
      have hi0 : (0 : Int) ≤ (k : Int) := by omega
      clear hti hoi hvi hz1
      go_wp2_with fail
      go_region_held3 (fun w' => w'.cell? ⟨G, 0, none⟩ = some (.slice Ae ds.length ce) ∧ w'.cell? ⟨b, o + k, none⟩ = some (.string t)) (first | go_keep | exact ⟨y7, y8⟩)
        (first | (go_at_call 22; refine (implValueOf_yes ds t _ _ _ _ (hsd.out.drewN 1) HV.out i hi HT.out).mono ?_; rintro e w8 ⟨rfl, hb⟩; replace hb : Below wr.heap.size wr w8 := undrew hb; have y7 := keep1 hb c7; have y8 := keep1 hb x7))
      have HB8 : Hid (Below w.heap.size w w8) := Lib.hid (hbel.out.trans (hb.mono hbel.out.size))
      have HS8 := Lib.hid ((hsd.out.below hb).call hb.size)
      have HX8 := Lib.hid ((hss.out.below hb).call hb.size)
      clear hb hbel hsd hss c7 x7 hce
      go_wp2_with fail
      go_region_held3 (fun w' => w'.cell? ⟨G, 0, none⟩ = some (.slice Ae ds.length ce) ∧ w'.cell? ⟨b, o + k, none⟩ = some (.string t)) (first | go_keep | exact ⟨z7, z8⟩ | exact ⟨u7, u8⟩)
        (first
          | (go_at_call 36; refine (implOther_v ds t _ _ _ _ (HS8.out.drewN 1) HO.out).mono ?_; rintro e w9 ⟨A9, d9, rfl, ho, hb⟩; replace hb : Below w8.heap.size w8 w9 := undrew hb; have HY9 := Lib.hid (ss_of_own ho HOM.out); have HX9 := Lib.hid ((HX8.out.below hb).call hb.size); have HB9 : Hid (Below w.heap.size w w9) := Lib.hid (HB8.out.trans (hb.mono HB8.out.size)); have HS9 := Lib.hid ((HS8.out.below hb).call hb.size); have z7 := keep1 hb y7; have z8 := keep1 hb y8)
          | (go_at_call 34; refine (equalTexts_any ms _ _ _ _ _ _ _ HY9.out HX9.out).mono ?_; rintro e w10 ⟨rfl, hb2⟩; have u7 := keep1 hb2 z7; have u8 := keep1 hb2 z8))
      have HB10 : Hid (Below w.heap.size w w10) := Lib.hid (HB9.out.trans (hb2.mono HB9.out.size))
      have HS10 := Lib.hid ((HS9.out.below hb2).call hb2.size)
      have HX10 := Lib.hid ((HX9.out.below hb2).call hb2.size)
      have HC10 := Lib.hid u7
      clear hb hb2 ho
      go_wp2
      go_roundw
      case rel => exact ⟨k + 1, by omega, by go_num, HB10, HC10, HS10, HX10⟩
      case measure => simp [intOf]; omega
    · obtain rfl : k = ms.length := by omega
      go_wp2
      go_ret
      exact ⟨rfl, hbel.out⟩

set_option maxRecDepth 100000 in
theorem lifted (os : Os) (started : os.Started) (H : Type) (enc : TypeId × Value → H) :
    ReturnsInHanded {} Try.checked os 10 .any (Rows.fnOtherNamesSpec.pre6 enc Try.prog Try.f10 Rows.fnOtherNamesRow.domain false) (Rows.fnOtherNamesSpec.post enc Try.prog Try.f10 false true false false) := by
  refine returnsInHanded_of_change (C := Try.checked) own started (by kernel_rfl) Try.func10
    (ChangeSpec.witness6 (enc := enc) (C := Try.checked) false ⟨#[], #[.slice none 0 0], []⟩ 8 (by kernel_rfl) (by kernel_rfl) (by kernel_rfl) (by kernel_rfl)) ?_
  intro W base args ds gs before hval0 hW hcnd _
  have hval : ∀ (j : Nat) t v, Try.f10.params[j]? = some t → args[j]? = some v → Value.okWide Try.prog W .any base t v := hval0
  have hW' := hW
  obtain ⟨p, q, hA0, hV, rfl, hfz, hnd⟩ := hW
  have hA : DataW.TrodAll enc Try.prog W 0 (fun _ => true) true Try.f10.params.toList args.toList ds p := hA0
  rw [Try.params10] at hA hval
  obtain ⟨v0, vs0, d0, ds0, p0, q0, hargs, rfl, rfl, h0, r0⟩ := trodAll_cons hA
  obtain ⟨rfl, rfl, rfl⟩ := trodAll_nil r0
  obtain rfl : args = #[v0] := by cases args; simp_all
  obtain ⟨rfl, rfl⟩ := trodVars_none hV
  have k0 := h0
  have lt0 : ∀ x ∈ p0, x.block < W.heap.size := by obtain ⟨m, hm⟩ := k0; exact DataW.trod_lt m _ _ _ hm
  obtain ⟨A0, n0, c0, l0, rfl, w0⟩ := open_code (hval 0 22 v0 rfl rfl) h0
  clear hA0 hval0
  refine (walk A0 n0 c0 l0 W w0).mono fun e W' ⟨he, bel⟩ => ?_
  subst he
  exact ⟨_, rfl, _, _, _, [], _, [], hW', trodAll_mk1 (shut_bool Try.underlying4 _), (trodAll_cons_mk (Below.trod laidOut (by kernel_rfl) (of_decide_eq_true (by kernel_rfl)) k0 bel lt0) trodAll_mk0), rfl, bel.frame _, fun h => by cases h⟩

theorem over : Rows.fnOtherNamesRow.holds Try.pinned (OpenSpec.ofChange Rows.fnOtherNamesSpec) :=
  OpenClaim.holds_of_wide 10 Try.f10 rfl rfl rfl rfl rfl rfl rfl ⟨rfl, rfl, rfl, rfl, rfl⟩ rfl rfl rfl rfl rfl (by kernel_rfl) Try.func10 (by kernel_rfl)
    (of_decide_eq_true (by kernel_rfl)) (by unfold Func.isWrapper; first | (rw [if_pos (by decide +kernel)]; kernel_rfl) | (rw [if_neg (by decide +kernel)]; exact ⟨rfl, rfl⟩))
    (fun os started H enc _ => lifted os started H enc)

theorem proved : Rows.FnOtherNamesSaid := over
end Go.Proofs.Ytjccnahebafepaa.fnOtherNames
