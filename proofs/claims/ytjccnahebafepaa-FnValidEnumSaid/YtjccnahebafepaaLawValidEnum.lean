/-
For every code the law of valid enumerations returns true: the program's ValidEnum answers as its model; a valid enumeration is valid without its last name, and its members have NameOf their values.
Conditions: none.
-/
import Derived.Test.YtjccnahebafepaaLBase
import Derived.Test.YtjccnahebafepaaNmOf
namespace Go.Proofs.Ytjccnahebafepaa.fnValidEnum
open Go.ChangeShapes Go.WideShapes Go.ChangeAt Go.RowKit
open Go.ChangeMaps (open_string shut_string)
set_option linter.unusedVariables false

theorem vEnum_take {ds : List D} (h : vEnum ds = true) (k : Nat) : vEnum (ds.take k) = true := by
  have hl := vEnum_len h
  have hg := vEnum_good h
  unfold vEnum vDefs
  rw [decide_eq_true (show (ds.take k).length ≤ 12 by simp; omega), Bool.and_true, decide_eq_true_eq]
  intro i hi _
  have hi2 : i < k ∧ i < ds.length := by simp at hi; omega
  have := hg i hi2.2 hi2.2
  rw [List.getElem_take]
  unfold goodAt at this ⊢
  rw [List.take_take, Nat.min_eq_left (by omega)]
  exact this
theorem mem_at {ds : List D} (hv : vEnum ds = true) (k : Nat) (hk : k < (mMembers ds).length) : ∃ j, ∃ hj : j < ds.length, (mMembers ds)[k] = ds[j].name ∧ fidx (isNm ds[j].name) ds = (j : Int) ∧ fidx (isVal ds[j].val) ds = (j : Int) := by
  have e := mMembers_yes hv
  have hk2 : k < (mems ds).length := by rw [e] at hk; simpa using hk
  obtain ⟨j, hj, e1, hf⟩ := mems_get ds k hk2
  refine ⟨j, hj, ?_, name_idx hv j hj, hf⟩
  simp only [e, List.getElem_map, e1]

set_option maxHeartbeats 8000000 in
theorem walk (A : Option Addr) (n c : Nat) (zs : List Int) (w : World) (h : SB w w.heap.size A n c zs) :
    Calls Try.prog 4 #[.slice A n c] w fun e w' => e = .returned (.bool true) ∧ Below w.heap.size w w' := by
  have hm := h.max
  have hcap := h.cap
  unfold maxLen at hm
  have HS0 := Lib.hid h
  clear h
  by_cases hbig : 1048576 < (n : Int)
  · go_enter Try.func4, Try.ntmps4
    go_wp2
    go_ret
    exact ⟨rfl, Below.refl _ _⟩
  go_enter Try.func4, Try.ntmps4
  go_wp2_with fail
  refine (drawValidEnum_any A n c zs _ HS0.out).mono ?_
  rintro e w1 ⟨Ae, ce, ds, rfl, hn, hsm, hs, hb⟩
  have c2 : (w1.alloc (.cells #[.slice Ae ds.length ce] 28)).cell? ⟨w1.heap.size, 0, none⟩ = some (.slice Ae ds.length ce) := by simp [go_sem]
  have HB2 : Hid (Below w.heap.size w (w1.alloc (.cells #[.slice Ae ds.length ce] 28))) := Lib.hid (hb.alloc hb.size _)
  have HS2 : Hid (SD (w1.alloc (.cells #[.slice Ae ds.length ce] 28)) (w1.alloc (.cells #[.slice Ae ds.length ce] 28)).heap.size Ae ds.length ce ds) := Lib.hid ((hs.alloc (Nat.le_refl _) _).call (by simp))
  have HSM := Lib.hid hsm
  have HOK : Hid (∀ d ∈ ds, d.ok) := Lib.hid (fun d hd => small_ok (hsm d hd))
  clear hb hs hsm
  cases hv : vEnum ds
  · have HV := Lib.hid hv
    clear hv
    go_wp2_with fail
    refine (implVE_v ds _ _ _ _ HS2.out HV.out).mono ?_
    rintro e w3 ⟨rfl, hb⟩
    have c3 := keep1 hb c2
    have HB3 : Hid (Below w.heap.size w w3) := Lib.hid (HB2.out.trans (hb.mono HB2.out.size))
    have HS3 := Lib.hid ((HS2.out.below hb).call hb.size)
    clear hb c2 HB2 HS2
    go_wp2_with fail
    refine (specVEw_v ds _ _ _ _ HS3.out HV.out).mono ?_
    rintro e w4 ⟨rfl, hb⟩
    have c4 := keep1 hb c3
    have HB4 : Hid (Below w.heap.size w w4) := Lib.hid (HB3.out.trans (hb.mono HB3.out.size))
    have HS4 := Lib.hid ((HS3.out.below hb).call hb.size)
    clear hb c3 HB3 HS3
    go_wp2_with fail
    refine (specVEw_v ds _ _ _ _ HS4.out HV.out).mono ?_
    rintro e w5 ⟨rfl, hb⟩
    have c5 := keep1 hb c4
    have HB5 : Hid (Below w.heap.size w w5) := Lib.hid (HB4.out.trans (hb.mono HB4.out.size))
    have HS5 := Lib.hid ((HS4.out.below hb).call hb.size)
    clear hb c4 HB4 HS4
    go_wp2
    go_ret
    exact ⟨rfl, HB5.out⟩

  have HV := Lib.hid hv
  have hall := fun k hk => mem_at hv k hk
  have HT := Lib.hid (vEnum_take hv (ds.length - 1))
  generalize hms : mMembers ds = ms at hall
  have HMS := Lib.hid hms
  have HOM : Hid (∀ t ∈ ms, t.size ≤ maxLen) := Lib.hid (by rw [← hms]; exact mMembers_ok HOK.out)
  have hml : ms.length ≤ 25 := by rw [← hms, mMembers_yes hv, List.length_map]; exact Nat.le_trans mems_len hn
  have HALL := Lib.hid hall
  clear hv hms hall
  go_wp2_with fail
  refine (implVE_v ds _ _ _ _ HS2.out HV.out).mono ?_
  rintro e w3 ⟨rfl, hb⟩
  have c3 := keep1 hb c2
  have HB3 : Hid (Below w.heap.size w w3) := Lib.hid (HB2.out.trans (hb.mono HB2.out.size))
  have HS3 := Lib.hid ((HS2.out.below hb).call hb.size)
  clear hb c2 HB2 HS2
  go_wp2_with fail
  refine (specVEw_v ds _ _ _ _ HS3.out HV.out).mono ?_
  rintro e w4 ⟨rfl, hb⟩
  have c4 := keep1 hb c3
  have HB4 : Hid (Below w.heap.size w w4) := Lib.hid (HB3.out.trans (hb.mono HB3.out.size))
  have HS4 := Lib.hid ((HS3.out.below hb).call hb.size)
  clear hb c3 HB3 HS3
  go_wp2_with fail
  refine (implMembersOf_v ds _ _ _ _ HS4.out HMS.out).mono ?_
  rintro e w5 ⟨A5, d5, rfl, ho, hb⟩
  have c5 := keep1 hb c4
  have HB5 : Hid (Below w.heap.size w w5) := Lib.hid (HB4.out.trans (hb.mono HB4.out.size))
  have HS5 := Lib.hid ((HS4.out.below hb).call hb.size)
  have HX5 := Lib.hid (ss_of_own ho HOM.out)
  clear ho hb c4 HB4 HS4
  go_wp2_with fail
  generalize hG : w1.heap.size = G at *
  clear hG
  go_loopw [6] (fun i wr => ∃ (k : Nat), k ≤ ms.length ∧ i = .int .i64 k ∧ Hid (Below w.heap.size w wr) ∧ Hid (wr.cell? ⟨G, 0, none⟩ = some (.slice Ae ds.length ce)) ∧ Hid (SD wr wr.heap.size Ae ds.length ce ds) ∧ Hid (SS wr wr.heap.size A5 ms.length d5 ms)) (fun i _ => ms.length - (intOf i).toNat)
  case atStart => exact ⟨0, Nat.zero_le _, rfl, HB5, Lib.hid c5, HS5, HX5⟩
  case round =>
    obtain ⟨k, hk, rfl, hbel, hce, hsd, hss⟩ := hrel
    have c7 := hce.out
    clear c5 HB5 HS5 HX5
    by_cases hlt : k < ms.length
    · obtain ⟨b, o, rfl, hbb, x7⟩ := hss.out.at_ hlt
      obtain ⟨j, hj, ht, hnj, hvj⟩ := HALL.out k hlt
      generalize ms[k] = t at *
      subst ht
      have HN := Lib.hid hnj
      have HJ := Lib.hid hvj
      have hi1 : (k : Int) < (ms.length : Int) := by omega
      have hi0 : (0 : Int) ≤ (k : Int) := by omega
      clear hnj hvj
      go_wp2_with fail
      go_region_held3 (fun w' => w'.cell? ⟨G, 0, none⟩ = some (.slice Ae ds.length ce) ∧ w'.cell? ⟨b, o + k, none⟩ = some (.string ds[j].name)) (first | go_keep | exact ⟨y7, y8⟩)
        (first | (go_at_call 22; refine (implValueOf_yes ds _ _ _ _ _ (hsd.out.drewN 1) HV.out j hj HN.out).mono ?_; rintro e w8 ⟨rfl, hb⟩; replace hb : Below wr.heap.size wr w8 := undrew hb; have y7 := keep1 hb c7; have y8 := keep1 hb x7))
      have HB8 : Hid (Below w.heap.size w w8) := Lib.hid (hbel.out.trans (hb.mono hbel.out.size))
      have HS8 := Lib.hid ((hsd.out.below hb).call hb.size)
      have HX8 := Lib.hid ((hss.out.below hb).call hb.size)
      clear hb hbel hsd hss c7 x7 hce
      go_wp2_with fail
      refine (implNameOf_yes ds _ _ _ _ _ HS8.out HV.out j hj HJ.out).mono ?_
      rintro e w9 ⟨rfl, hb⟩
      have z7 := keep1 hb y7
      have z8 := keep1 hb y8
      have HB9 : Hid (Below w.heap.size w w9) := Lib.hid (HB8.out.trans (hb.mono HB8.out.size))
      have HS9 := Lib.hid ((HS8.out.below hb).call hb.size)
      have HX9 := Lib.hid ((HX8.out.below hb).call hb.size)
      have HC9 := Lib.hid z7
      clear hb y7 y8 HB8 HS8 HX8
      go_wp2
      go_roundw
      case rel => exact ⟨k + 1, by omega, by go_num, HB9, HC9, HS9, HX9⟩
      case measure => simp [intOf]; omega
    · obtain rfl : k = ms.length := by omega
      by_cases hz : ds.length = 0
      · have hz1 : ((ds.length : Int) == 0) = true := by rw [beq_iff_eq]; omega
        clear hz
        go_wp2
        go_ret
        exact ⟨rfl, hbel.out⟩
      · have hz1 : ((ds.length : Int) == 0) = false := by rw [beq_eq_false_iff_ne]; omega
        have hle : (ds.length : Int) - 1 ≤ ce := by have := hsd.out.cap; omega
        have hle0 : 0 ≤ (ds.length : Int) - 1 := by omega
        have htn : ((ds.length : Int) - 1).toNat = ds.length - 1 := by omega
        have HTK := Lib.hid (hsd.out.take_ (ds.length - 1) (by omega))
        clear hz
        go_wp2_with fail
        refine (implVE_v (ds.take (ds.length - 1)) _ _ _ _ HTK.out HT.out).mono ?_
        rintro e w9 ⟨rfl, hb⟩
        have HB9 : Hid (Below w.heap.size w w9) := Lib.hid (hbel.out.trans (hb.mono hbel.out.size))
        clear hb
        go_wp2
        go_ret
        exact ⟨rfl, HB9.out⟩

set_option maxRecDepth 100000 in
theorem lifted (os : Os) (started : os.Started) (H : Type) (enc : TypeId × Value → H) :
    ReturnsInHanded {} Try.checked os 4 .any (Rows.fnValidEnumSpec.pre6 enc Try.prog Try.f4 Rows.fnValidEnumRow.domain false) (Rows.fnValidEnumSpec.post enc Try.prog Try.f4 false true false false) := by
  refine returnsInHanded_of_change (C := Try.checked) own started (by kernel_rfl) Try.func4
    (ChangeSpec.witness6 (enc := enc) (C := Try.checked) false ⟨#[], #[.slice none 0 0], []⟩ 8 (by kernel_rfl) (by kernel_rfl) (by kernel_rfl) (by kernel_rfl)) ?_
  intro W base args ds gs before hval0 hW hcnd _
  have hval : ∀ (j : Nat) t v, Try.f4.params[j]? = some t → args[j]? = some v → Value.okWide Try.prog W .any base t v := hval0
  have hW' := hW
  obtain ⟨p, q, hA0, hV, rfl, hfz, hnd⟩ := hW
  have hA : DataW.TrodAll enc Try.prog W 0 (fun _ => true) true Try.f4.params.toList args.toList ds p := hA0
  rw [Try.params4] at hA hval
  obtain ⟨v0, vs0, d0, ds0, p0, q0, hargs, rfl, rfl, h0, r0⟩ := trodAll_cons hA
  obtain ⟨rfl, rfl, rfl⟩ := trodAll_nil r0
  obtain rfl : args = #[v0] := by cases args; simp_all
  obtain ⟨rfl, rfl⟩ := trodVars_none hV
  have k0 := h0
  have lt0 : ∀ x ∈ p0, x.block < W.heap.size := by obtain ⟨m, hm⟩ := k0; exact DataW.trod_lt m _ _ _ hm
  obtain ⟨A0, n0, c0, l0, rfl, w0⟩ := open_code (hval 0 22 v0 rfl rfl) h0
  clear hA0 hval0
  refine (walk A0 n0 c0 l0 W w0).mono fun e W' ⟨he, bel⟩ => ?_
  subst he
  exact ⟨_, rfl, _, _, _, [], _, [], hW', trodAll_mk1 (shut_bool Try.underlying4 _), (trodAll_cons_mk (Below.trod laidOut (by kernel_rfl) (of_decide_eq_true (by kernel_rfl)) k0 bel lt0) trodAll_mk0), rfl, bel.frame _, fun h => by cases h⟩

theorem over : Rows.fnValidEnumRow.holds Try.pinned (OpenSpec.ofChange Rows.fnValidEnumSpec) :=
  OpenClaim.holds_of_wide 4 Try.f4 rfl rfl rfl rfl rfl rfl rfl ⟨rfl, rfl, rfl, rfl, rfl⟩ rfl rfl rfl rfl rfl (by kernel_rfl) Try.func4 (by kernel_rfl)
    (of_decide_eq_true (by kernel_rfl)) (by unfold Func.isWrapper; first | (rw [if_pos (by decide +kernel)]; kernel_rfl) | (rw [if_neg (by decide +kernel)]; exact ⟨rfl, rfl⟩))
    (fun os started H enc _ => lifted os started H enc)

theorem proved : Rows.FnValidEnumSaid := over
end Go.Proofs.Ytjccnahebafepaa.fnValidEnum
