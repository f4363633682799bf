/-
For every code the law of names returns true: a drawn name that is valid is short, is valid without its first letter, and with six more letters it is none.
Conditions: none.
-/
import Derived.Test.YtjccnahebafepaaOpenC
import Derived.Laws.Concat
import Derived.Lib.IndexBytes
namespace Go.Proofs.Ytjccnahebafepaa.fnValidName
open Go.ChangeShapes Go.WideShapes Go.ChangeAt Go.RowKit
open Go.ChangeMaps (open_string shut_string)
set_option linter.unusedVariables false

theorem vName_iff (s : ByteArray) : vName s = true ↔ 1 ≤ s.size ∧ s.size ≤ 6 ∧ s.data.toList.all okB = true := by
  unfold vName okTo
  rw [List.take_of_length_le (by simp)]
  simp [and_assoc]
theorem vName_tail (s : ByteArray) (h : vName s = true) (h1 : s.size ≠ 1) : vName (s.extract 1 s.size) = true := by
  rw [vName_iff] at h ⊢
  obtain ⟨a, b, c⟩ := h
  have e := Lib.extract_to_end s 1
  have hs : (s.extract 1 s.size).size = s.size - 1 := by rw [ByteArray.size_extract]; omega
  refine ⟨by omega, by omega, ?_⟩
  rw [e, List.all_eq_true]
  intro x hx
  exact List.all_eq_true.1 c x (List.mem_of_mem_drop hx)
theorem vName_long (s : ByteArray) (h : 6 < s.size) : vName s = false := by
  cases e : vName s
  · rfl
  · rw [vName_iff] at e; omega

set_option maxHeartbeats 1000000 in
theorem walk (A : Option Addr) (n c : Nat) (zs : List Int) (w : World) (h : SB w w.heap.size A n c zs) :
    Calls Try.prog 3 #[.slice A n c] w fun e w' => e = .returned (.bool true) ∧ Below w.heap.size w w' := by
  have hm := h.max
  have hcap := h.cap
  unfold maxLen at hm
  have HS := Lib.hid h
  clear h
  by_cases hbig : 1048576 < (n : Int)
  · go_enter Try.func3, Try.ntmps3
    go_wp2
    go_ret
    exact ⟨rfl, Below.refl _ _⟩
  go_enter Try.func3, Try.ntmps3
  go_wp2_with fail
  refine (drawName_any A n c zs _ HS.out).mono ?_
  rintro e w1 ⟨s, rfl, hs, hb⟩
  have HB := Lib.hid hb
  have HM : Hid (s.size ≤ maxLen) := Lib.hid (by unfold maxLen; omega)
  clear hb
  cases hv : vName s
  · have HV := Lib.hid hv
    clear hv
    go_wp2_with (first | (go_at_call 16; refine (implName_v _ _ HM.out HV.out).mono ?_; rintro e w' ⟨rfl, rfl⟩) | (go_at_call 17; refine (specName_w _ _ HM.out HV.out).mono ?_; rintro e w' ⟨rfl, rfl⟩))
    go_ret
    exact ⟨rfl, HB.out⟩
  · have HV := Lib.hid hv
    have hsz := (vName_iff s).1 hv
    have hs1 := hsz.1
    have hs6 := hsz.2.1
    have happ : ∀ W : World, (Op.stringOp .add s ⟨#[97, 98, 99, 100, 101, 102]⟩).run Try.prog W = .ok (.string (s ++ ⟨#[97, 98, 99, 100, 101, 102]⟩)) W := fun W => run_string_add W s _ (by omega) (by decide)
    have hal : (s ++ (⟨#[97, 98, 99, 100, 101, 102]⟩ : ByteArray)).size = s.size + 6 := by rw [ByteArray.size_append]; rfl
    have HL : Hid (vName (s ++ (⟨#[97, 98, 99, 100, 101, 102]⟩ : ByteArray)) = false) := Lib.hid (vName_long _ (by omega))
    have HLM : Hid ((s ++ (⟨#[97, 98, 99, 100, 101, 102]⟩ : ByteArray)).size ≤ maxLen) := Lib.hid (by unfold maxLen; omega)
    generalize s ++ (⟨#[97, 98, 99, 100, 101, 102]⟩ : ByteArray) = z at happ HL HLM
    clear hsz hal
    by_cases h1 : s.size = 1
    · have hq : ((s.size : Int) == 1) = true := by rw [beq_iff_eq]; omega
      clear hv h1
      go_wp2_with fail
      refine (implName_v _ _ HM.out HV.out).mono ?_
      rintro e w' ⟨rfl, rfl⟩
      go_wp2_with fail
      refine (specName_w _ _ HM.out HV.out).mono ?_
      rintro e w' ⟨rfl, rfl⟩
      go_wp2_with fail
      refine (implName_v _ _ HLM.out HL.out).mono ?_
      rintro e w' ⟨rfl, rfl⟩
      go_wp2
      go_ret
      exact ⟨rfl, HB.out⟩
    · have hq : ((s.size : Int) == 1) = false := by rw [beq_eq_false_iff_ne]; omega
      have HT := Lib.hid (vName_tail s hv h1)
      have HTM : Hid ((s.extract 1 s.size).size ≤ maxLen) := Lib.hid (by rw [ByteArray.size_extract]; unfold maxLen; omega)
      clear hv h1
      go_wp2_with fail
      refine (implName_v _ _ HM.out HV.out).mono ?_
      rintro e w' ⟨rfl, rfl⟩
      go_wp2_with fail
      refine (specName_w _ _ HM.out HV.out).mono ?_
      rintro e w' ⟨rfl, rfl⟩
      go_wp2_with fail
      refine (implName_v _ _ HTM.out HT.out).mono ?_
      rintro e w' ⟨rfl, rfl⟩
      go_wp2_with fail
      refine (implName_v _ _ HLM.out HL.out).mono ?_
      rintro e w' ⟨rfl, rfl⟩
      go_wp2
      go_ret
      exact ⟨rfl, HB.out⟩
set_option maxRecDepth 100000 in
theorem lifted (os : Os) (started : os.Started) (H : Type) (enc : TypeId × Value → H) :
    ReturnsInHanded {} Try.checked os 3 .any (Rows.fnValidNameSpec.pre6 enc Try.prog Try.f3 Rows.fnValidNameRow.domain false) (Rows.fnValidNameSpec.post enc Try.prog Try.f3 false true false false) := by
  refine returnsInHanded_of_change (C := Try.checked) own started (by kernel_rfl) Try.func3
    (ChangeSpec.witness6 (enc := enc) (C := Try.checked) false ⟨#[], #[.slice none 0 0], []⟩ 8 (by kernel_rfl) (by kernel_rfl) (by kernel_rfl) (by kernel_rfl)) ?_
  intro W base args ds gs before hval0 hW hcnd _
  have hval : ∀ (j : Nat) t v, Try.f3.params[j]? = some t → args[j]? = some v → Value.okWide Try.prog W .any base t v := hval0
  have hW' := hW
  obtain ⟨p, q, hA0, hV, rfl, hfz, hnd⟩ := hW
  have hA : DataW.TrodAll enc Try.prog W 0 (fun _ => true) true Try.f3.params.toList args.toList ds p := hA0
  rw [Try.params3] at hA hval
  obtain ⟨v0, vs0, d0, ds0, p0, q0, hargs, rfl, rfl, h0, r0⟩ := trodAll_cons hA
  obtain ⟨rfl, rfl, rfl⟩ := trodAll_nil r0
  obtain rfl : args = #[v0] := by cases args; simp_all
  obtain ⟨rfl, rfl⟩ := trodVars_none hV
  have k0 := h0
  have lt0 : ∀ x ∈ p0, x.block < W.heap.size := by obtain ⟨m, hm⟩ := k0; exact DataW.trod_lt m _ _ _ hm
  obtain ⟨A0, n0, c0, l0, rfl, w0⟩ := open_code (hval 0 22 v0 rfl rfl) h0
  clear hA0 hval0
  refine (walk A0 n0 c0 l0 W w0).mono fun e W' ⟨he, bel⟩ => ?_
  subst he
  exact ⟨_, rfl, _, _, _, [], _, [], hW', trodAll_mk1 (shut_bool Try.underlying4 _), (trodAll_cons_mk (Below.trod laidOut (by kernel_rfl) (of_decide_eq_true (by kernel_rfl)) k0 bel lt0) trodAll_mk0), rfl, bel.frame _, fun h => by cases h⟩

theorem over : Rows.fnValidNameRow.holds Try.pinned (OpenSpec.ofChange Rows.fnValidNameSpec) :=
  OpenClaim.holds_of_wide 3 Try.f3 rfl rfl rfl rfl rfl rfl rfl ⟨rfl, rfl, rfl, rfl, rfl⟩ rfl rfl rfl rfl rfl (by kernel_rfl) Try.func3 (by kernel_rfl)
    (of_decide_eq_true (by kernel_rfl)) (by unfold Func.isWrapper; first | (rw [if_pos (by decide +kernel)]; kernel_rfl) | (rw [if_neg (by decide +kernel)]; exact ⟨rfl, rfl⟩))
    (fun os started H enc _ => lifted os started H enc)

theorem proved : Rows.FnValidNameSaid := over
end Go.Proofs.Ytjccnahebafepaa.fnValidName
