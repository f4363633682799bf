/-
For every code the law of members returns true: the program's MembersOf answers as its model; members and their other names are as many as the names, and no other name is a member.
Conditions: none.
-/
import Derived.Test.YtjccnahebafepaaLBase
namespace Go.Proofs.Ytjccnahebafepaa.fnMembersOf
open Go.ChangeShapes Go.WideShapes Go.ChangeAt Go.RowKit
open Go.ChangeMaps (open_string shut_string)
set_option linter.unusedVariables false

theorem mem_at {ds : List D} (hv : vEnum ds = true) (k : Nat) (hk : k < (mems ds).length) : (mMembers ds)[k]? = some (mems ds)[k].name := by
  rw [mMembers_yes hv, List.getElem?_map, List.getElem?_eq_getElem hk]; rfl
theorem oth_not {ds : List D} (hv : vEnum ds = true) (k : Nat) (hk : k < (mems ds).length) : ∀ t ∈ mOthers ds (mems ds)[k].name, (mMembers ds).any (hT t) = false := by
  obtain ⟨j, hj, e1, hf⟩ := mems_get ds k hk
  rw [e1, mOthers_yes hv j hj (name_idx hv j hj) j hf]
  intro t ht
  obtain ⟨i, hi, e2, e3, e4⟩ := othTo_mem ds ds[j].val j ds.length (Nat.le_refl _) t ht
  rw [List.any_eq_false, mMembers_yes hv]
  intro x hx hxt
  obtain ⟨m, hm, rfl⟩ := List.mem_map.1 hx
  obtain ⟨q, hq, rfl⟩ := List.mem_iff_getElem.1 hm
  obtain ⟨j', hj', e5, hf'⟩ := mems_get ds q hq
  have e6 := hT_iff.1 hxt
  rw [e5, ← e2] at e6
  have e7 := names_apart hv j' i hj' hi e6
  subst e7
  rw [e3, hf] at hf'
  omega

set_option maxHeartbeats 8000000 in
theorem walk (A : Option Addr) (n c : Nat) (zs : List Int) (w : World) (h : SB w w.heap.size A n c zs) :
    Calls Try.prog 9 #[.slice A n c] w fun e w' => e = .returned (.bool true) ∧ Below w.heap.size w w' := by
  have hm := h.max
  have hcap := h.cap
  unfold maxLen at hm
  have HS0 := Lib.hid h
  clear h
  by_cases hbig : 1048576 < (n : Int)
  · go_enter Try.func9, Try.ntmps9
    go_wp2
    go_ret
    exact ⟨rfl, Below.refl _ _⟩
  go_enter Try.func9, Try.ntmps9
  go_wp2_with fail
  refine (drawMembersOf_any A n c zs _ HS0.out).mono ?_
  rintro e w1 ⟨Ae, ce, ds, rfl, hn, hsm, hs, hb⟩
  have c2 : (w1.alloc (.cells #[.slice Ae ds.length ce] 28)).cell? ⟨w1.heap.size, 0, none⟩ = some (.slice Ae ds.length ce) := by simp [go_sem]
  have HB2 : Hid (Below w.heap.size w (w1.alloc (.cells #[.slice Ae ds.length ce] 28))) := Lib.hid (hb.alloc hb.size _)
  have HS2 : Hid (SD (w1.alloc (.cells #[.slice Ae ds.length ce] 28)) (w1.alloc (.cells #[.slice Ae ds.length ce] 28)).heap.size Ae ds.length ce ds) := Lib.hid ((hs.alloc (Nat.le_refl _) _).call (by simp))
  have HSM := Lib.hid hsm
  have HOK : Hid (∀ d ∈ ds, d.ok) := Lib.hid (fun d hd => small_ok (hsm d hd))
  clear hb hs hsm
  have hall := mem_at (ds := ds)
  have hnot := oth_not (ds := ds)
  have hlen := mMembers_yes (ds := ds)
  have hmm := mMembers_ok HOK.out
  generalize hms : mMembers ds = ms at hall hnot hlen hmm
  have HMS := Lib.hid hms
  have HOM := Lib.hid hmm
  have HOO : Hid (∀ s : ByteArray, ∀ t ∈ mOthers ds s, t.size ≤ maxLen) := Lib.hid (fun s => mOthers_ok HOK.out)
  clear hms hmm
  cases hv : vEnum ds
  · have HV := Lib.hid hv
    clear hv hall hnot hlen
    go_wp2_with fail
    refine (implMembersOf_v ds _ _ _ _ HS2.out HMS.out).mono ?_
    rintro e w3 ⟨A3, d3, rfl, ho, hb⟩
    have c3 := keep1 hb c2
    have HB3 : Hid (Below w.heap.size w w3) := Lib.hid (HB2.out.trans (hb.mono HB2.out.size))
    have HS3 := Lib.hid ((HS2.out.below hb).call hb.size)
    have HX3 := Lib.hid (ss_of_own ho HOM.out)
    clear ho hb c2 HB2 HS2
    go_wp2_with fail
    refine (specMembersOf_v ds _ _ _ _ HS3.out HMS.out).mono ?_
    rintro e w4 ⟨A4, d4, rfl, ho, hb⟩
    have c4 := keep1 hb c3
    have HB4 : Hid (Below w.heap.size w w4) := Lib.hid (HB3.out.trans (hb.mono HB3.out.size))
    have HS4 := Lib.hid ((HS3.out.below hb).call hb.size)
    have HY4 := Lib.hid (ss_of_own ho HOM.out)
    have HX4 := Lib.hid ((HX3.out.below hb).call hb.size)
    clear HX3
    clear ho hb c3 HB3 HS3
    go_wp2_with fail
    refine (equalTexts_any ms _ _ _ _ _ _ _ HX4.out HY4.out).mono ?_
    rintro e w5 ⟨rfl, hb⟩
    have c5 := keep1 hb c4
    have HB5 : Hid (Below w.heap.size w w5) := Lib.hid (HB4.out.trans (hb.mono HB4.out.size))
    have HS5 := Lib.hid ((HS4.out.below hb).call hb.size)
    have HX5 := Lib.hid ((HX4.out.below hb).call hb.size)
    clear hb c4 HB4 HS4 HX4 HY4
    go_wp2_with fail
    refine (implVE_v ds _ _ _ _ HS5.out HV.out).mono ?_
    rintro e w6 ⟨rfl, hb⟩
    have c6 := keep1 hb c5
    have HB6 : Hid (Below w.heap.size w w6) := Lib.hid (HB5.out.trans (hb.mono HB5.out.size))
    have HS6 := Lib.hid ((HS5.out.below hb).call hb.size)
    have HX6 := Lib.hid ((HX5.out.below hb).call hb.size)
    clear hb c5 HB5 HS5 HX5
    go_wp2_with fail
    refine (specMembersOf_v ds _ _ _ _ HS6.out HMS.out).mono ?_
    rintro e w7 ⟨A7, d7, rfl, ho, hb⟩
    have c7 := keep1 hb c6
    have HB7 : Hid (Below w.heap.size w w7) := Lib.hid (HB6.out.trans (hb.mono HB6.out.size))
    have HS7 := Lib.hid ((HS6.out.below hb).call hb.size)
    have HY7 := Lib.hid (ss_of_own ho HOM.out)
    have HX7 := Lib.hid ((HX6.out.below hb).call hb.size)
    clear HX6
    clear ho hb c6 HB6 HS6
    go_wp2_with fail
    refine (equalTexts_any ms _ _ _ _ _ _ _ HX7.out HY7.out).mono ?_
    rintro e w8 ⟨rfl, hb⟩
    have c8 := keep1 hb c7
    have HB8 : Hid (Below w.heap.size w w8) := Lib.hid (HB7.out.trans (hb.mono HB7.out.size))
    have HS8 := Lib.hid ((HS7.out.below hb).call hb.size)
    have HX8 := Lib.hid ((HX7.out.below hb).call hb.size)
    clear hb c7 HB7 HS7 HX7 HY7
    go_wp2
    go_ret
    exact ⟨rfl, HB8.out⟩

  have HV := Lib.hid hv
  have hml0 : ms.length = (mems ds).length := by rw [hlen hv, List.length_map]
  have HALL := Lib.hid (hall hv)
  have HNOT := Lib.hid (hnot hv)
  have HSUM := Lib.hid (othSum_all hv)
  have hml : ms.length ≤ 25 := by have := mems_len (ds := ds); omega
  have HML := Lib.hid hml0
  clear hv hall hnot hlen hml0
  go_wp2_with fail
  refine (implMembersOf_v ds _ _ _ _ HS2.out HMS.out).mono ?_
  rintro e w3 ⟨A3, d3, rfl, ho, hb⟩
  have c3 := keep1 hb c2
  have HB3 : Hid (Below w.heap.size w w3) := Lib.hid (HB2.out.trans (hb.mono HB2.out.size))
  have HS3 := Lib.hid ((HS2.out.below hb).call hb.size)
  have HX3 := Lib.hid (ss_of_own ho HOM.out)
  clear ho hb c2 HB2 HS2
  go_wp2_with fail
  refine (specMembersOf_v ds _ _ _ _ HS3.out HMS.out).mono ?_
  rintro e w4 ⟨A4, d4, rfl, ho, hb⟩
  have c4 := keep1 hb c3
  have HB4 : Hid (Below w.heap.size w w4) := Lib.hid (HB3.out.trans (hb.mono HB3.out.size))
  have HS4 := Lib.hid ((HS3.out.below hb).call hb.size)
  have HY4 := Lib.hid (ss_of_own ho HOM.out)
  have HX4 := Lib.hid ((HX3.out.below hb).call hb.size)
  clear HX3
  clear ho hb c3 HB3 HS3
  go_wp2_with fail
  refine (equalTexts_any ms _ _ _ _ _ _ _ HX4.out HY4.out).mono ?_
  rintro e w5 ⟨rfl, hb⟩
  have c5 := keep1 hb c4
  have HB5 : Hid (Below w.heap.size w w5) := Lib.hid (HB4.out.trans (hb.mono HB4.out.size))
  have HS5 := Lib.hid ((HS4.out.below hb).call hb.size)
  have HX5 := Lib.hid ((HX4.out.below hb).call hb.size)
  clear hb c4 HB4 HS4 HX4 HY4
  go_wp2_with fail
  refine (implVE_v ds _ _ _ _ HS5.out HV.out).mono ?_
  rintro e w6 ⟨rfl, hb⟩
  have c6 := keep1 hb c5
  have HB6 : Hid (Below w.heap.size w w6) := Lib.hid (HB5.out.trans (hb.mono HB5.out.size))
  have HS6 := Lib.hid ((HS5.out.below hb).call hb.size)
  have HX6 := Lib.hid ((HX5.out.below hb).call hb.size)
  clear hb c5 HB5 HS5 HX5
  go_wp2_with fail
  generalize hG : w1.heap.size = G at *
  clear hG
  go_loopw [5, 6] (fun nn i wr => ∃ (k : Nat), k ≤ ms.length ∧ i = .int .i64 k ∧ nn = .int .i64 ((ms.length : Int) + (othSum ds k : Nat)) ∧ othSum ds k ≤ 12 * k ∧ Hid (Below w.heap.size w wr) ∧ Hid (wr.cell? ⟨G, 0, none⟩ = some (.slice Ae ds.length ce)) ∧ Hid (SD wr wr.heap.size Ae ds.length ce ds) ∧ Hid (SS wr wr.heap.size A3 ms.length d3 ms)) (fun _ i _ => ms.length - (intOf i).toNat)
  case atStart => exact ⟨0, Nat.zero_le _, rfl, by simp [othSum], by simp [othSum], HB6, Lib.hid c6, HS6, HX6⟩
  case round =>
    obtain ⟨k, hk, rfl, rfl, hsk, hbel, hce, hsd, hss⟩ := hrel
    have c7 := hce.out
    clear c6 HB6 HS6 HX6
    by_cases hlt : k < ms.length
    · obtain ⟨b, o, rfl, hbb, x7⟩ := hss.out.at_ hlt
      have hkm : k < (mems ds).length := by have := HML.out; omega
      have HSU := Lib.hid (othSum_succ ds k hkm)
      have ht := HALL.out k hkm
      rw [List.getElem?_eq_getElem hlt] at ht
      replace ht := Option.some.inj ht
      have hno := HNOT.out k hkm
      have hol := mOthers_len ds (mems ds)[k].name
      have hoo := HOO.out (mems ds)[k].name
      rw [ht] at x7
      clear ht
      generalize (mems ds)[k].name = t at *
      generalize hos : mOthers ds t = os at *
      have HO := Lib.hid hos
      have HNO := Lib.hid hno
      have HOK2 := Lib.hid hoo
      have hi1 : (k : Int) < (ms.length : Int) := by omega
      have hi0 : (0 : Int) ≤ (k : Int) := by omega
      generalize hsum : othSum ds k = sm at *
      have HSMK := Lib.hid hsum
      clear hos hno hoo hsum
      go_wp2_with fail
      go_region_held3 (fun w' => w'.cell? ⟨G, 0, none⟩ = some (.slice Ae ds.length ce) ∧ w'.cell? ⟨b, o + k, none⟩ = some (.string t)) (first | go_keep | exact ⟨y7, y8⟩)
        (first | (go_at_call 36; refine (implOther_v ds t _ _ _ _ (hsd.out.drewN 1) HO.out).mono ?_; rintro e w8 ⟨A8, d8, rfl, ho, hb⟩; replace hb : Below wr.heap.size wr w8 := undrew hb; have y7 := keep1 hb c7; have y8 := keep1 hb x7))
      have HB8 : Hid (Below w.heap.size w w8) := Lib.hid (hbel.out.trans (hb.mono hbel.out.size))
      have HS8 := Lib.hid ((hsd.out.below hb).call hb.size)
      have HX8 := Lib.hid ((hss.out.below hb).call hb.size)
      have HY8 := Lib.hid (ss_of_own ho HOK2.out)
      clear hb hbel hsd hss c7 x7 hce ho
      go_wp2_with fail
      go_loopw [8] (fun i wq => ∃ (m : Nat), m ≤ os.length ∧ i = .int .i64 m ∧ Hid (Below w.heap.size w wq) ∧ Hid (wq.cell? ⟨G, 0, none⟩ = some (.slice Ae ds.length ce)) ∧ Hid (SD wq wq.heap.size Ae ds.length ce ds) ∧ Hid (SS wq wq.heap.size (some ⟨b, o, none⟩) ms.length d3 ms) ∧ Hid (SS wq wq.heap.size A8 os.length d8 os)) (fun i _ => os.length - (intOf i).toNat)
      case atStart => exact ⟨0, Nat.zero_le _, rfl, HB8, Lib.hid y7, HS8, HX8, HY8⟩
      case round =>
        obtain ⟨m, hm2, rfl, hbel, hce, hsd, hss, hso⟩ := hrel
        clear y7 y8 HB8 HS8 HX8 HY8
        by_cases hlt2 : m < os.length
        · obtain ⟨b2, o2, rfl, hbb2, x2⟩ := hso.out.at_ hlt2
          have hany := HNO.out _ (List.getElem_mem hlt2)
          generalize os[m] = u at x2 hany
          have HANY := Lib.hid hany
          have hj1 : (m : Int) < (os.length : Int) := by omega
          have hj0 : (0 : Int) ≤ (m : Int) := by omega
          clear hany
          go_wp2_with fail
          refine (hasText_any ms _ _ _ _ _ hss.out HANY.out).mono ?_
          rintro e w9 ⟨rfl, hb⟩
          have HB9 : Hid (Below w.heap.size w w9) := Lib.hid (hbel.out.trans (hb.mono hbel.out.size))
          have HS9 := Lib.hid ((hsd.out.below hb).call hb.size)
          have HX9 := Lib.hid ((hss.out.below hb).call hb.size)
          have HY9 := Lib.hid ((hso.out.below hb).call hb.size)
          have HC9 := Lib.hid (keep1 hb hce.out)
          clear hb x2
          go_wp2
          go_roundw
          case rel => exact ⟨m + 1, by omega, by go_num, HB9, HC9, HS9, HX9, HY9⟩
          case measure => simp [intOf]; omega
        · obtain rfl : m = os.length := by omega
          go_wp2
          go_roundw
          case rel => exact ⟨k + 1, by omega, by go_num, by congr 1; rw [HSU.out]; push_cast; omega, by rw [HSU.out]; omega, hbel, hce, hsd, hss⟩
          case measure => simp [intOf]; omega
    · obtain rfl : k = ms.length := by omega
      have hq : (((ms.length : Int) + (othSum ds ms.length : Nat)) == (ds.length : Int)) = true := by rw [beq_iff_eq, HML.out]; have := HSUM.out; omega
      generalize othSum ds ms.length = sm at *
      go_wp2
      go_ret
      exact ⟨rfl, hbel.out⟩

set_option maxRecDepth 100000 in
theorem lifted (os : Os) (started : os.Started) (H : Type) (enc : TypeId × Value → H) :
    ReturnsInHanded {} Try.checked os 9 .any (Rows.fnMembersOfSpec.pre6 enc Try.prog Try.f9 Rows.fnMembersOfRow.domain false) (Rows.fnMembersOfSpec.post enc Try.prog Try.f9 false true false false) := by
  refine returnsInHanded_of_change (C := Try.checked) own started (by kernel_rfl) Try.func9
    (ChangeSpec.witness6 (enc := enc) (C := Try.checked) false ⟨#[], #[.slice none 0 0], []⟩ 8 (by kernel_rfl) (by kernel_rfl) (by kernel_rfl) (by kernel_rfl)) ?_
  intro W base args ds gs before hval0 hW hcnd _
  have hval : ∀ (j : Nat) t v, Try.f9.params[j]? = some t → args[j]? = some v → Value.okWide Try.prog W .any base t v := hval0
  have hW' := hW
  obtain ⟨p, q, hA0, hV, rfl, hfz, hnd⟩ := hW
  have hA : DataW.TrodAll enc Try.prog W 0 (fun _ => true) true Try.f9.params.toList args.toList ds p := hA0
  rw [Try.params9] at hA hval
  obtain ⟨v0, vs0, d0, ds0, p0, q0, hargs, rfl, rfl, h0, r0⟩ := trodAll_cons hA
  obtain ⟨rfl, rfl, rfl⟩ := trodAll_nil r0
  obtain rfl : args = #[v0] := by cases args; simp_all
  obtain ⟨rfl, rfl⟩ := trodVars_none hV
  have k0 := h0
  have lt0 : ∀ x ∈ p0, x.block < W.heap.size := by obtain ⟨m, hm⟩ := k0; exact DataW.trod_lt m _ _ _ hm
  obtain ⟨A0, n0, c0, l0, rfl, w0⟩ := open_code (hval 0 22 v0 rfl rfl) h0
  clear hA0 hval0
  refine (walk A0 n0 c0 l0 W w0).mono fun e W' ⟨he, bel⟩ => ?_
  subst he
  exact ⟨_, rfl, _, _, _, [], _, [], hW', trodAll_mk1 (shut_bool Try.underlying4 _), (trodAll_cons_mk (Below.trod laidOut (by kernel_rfl) (of_decide_eq_true (by kernel_rfl)) k0 bel lt0) trodAll_mk0), rfl, bel.frame _, fun h => by cases h⟩

theorem over : Rows.fnMembersOfRow.holds Try.pinned (OpenSpec.ofChange Rows.fnMembersOfSpec) :=
  OpenClaim.holds_of_wide 9 Try.f9 rfl rfl rfl rfl rfl rfl rfl ⟨rfl, rfl, rfl, rfl, rfl⟩ rfl rfl rfl rfl rfl (by kernel_rfl) Try.func9 (by kernel_rfl)
    (of_decide_eq_true (by kernel_rfl)) (by unfold Func.isWrapper; first | (rw [if_pos (by decide +kernel)]; kernel_rfl) | (rw [if_neg (by decide +kernel)]; exact ⟨rfl, rfl⟩))
    (fun os started H enc _ => lifted os started H enc)

theorem proved : Rows.FnMembersOfSaid := over
end Go.Proofs.Ytjccnahebafepaa.fnMembersOf
