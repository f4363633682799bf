import Derived.Test.YtiebdhbioccogaaGreatDoorBaseH
import Derived.Test.YtiebdhbioccogaaGreatDoorBaseX
import Derived.Test.YtiebdhbioccogaaGreatDoorBaseB
import Derived.BigQuiet
import Derived.Test.YtiebdhbioccogaaGreatDoorBaseY
import Derived.Test.YtiebdhbioccogaaGreatDoorBaseE
import Derived.Test.YtiebdhbioccogaaGreatDoorBaseD
import Derived.Test.YtiebdhbioccogaaGreatDoorBaseC
namespace Go.Proofs.YtiebdhbioccogaaGreatDoor
open Go.RowKit
set_option linter.unusedVariables false
set_option linter.unusedSimpArgs false
set_option maxRecDepth 100000

def Sm (d : D) : Prop := d.name.size ≤ 6 ∧ -5000 ≤ d.val ∧ d.val ≤ 5000
set_option maxHeartbeats 1000000 in
theorem signed_any (v : Int) (w : World) (h0 : -5000 ≤ v) (h1 : v ≤ 5000) {t : ByteArray} (ht : itoaB v = t) :
    Calls Tryz.prog 102 #[.int .i64 v] w fun e w' => e = .returned (.string t) ∧ w = w' := by
  by_cases hn : v < 0
  · obtain ⟨n, rfl⟩ : ∃ n : Nat, v = -(n : Int) := ⟨(-v).toNat, by omega⟩
    rw [itoaB_neg n (by omega)] at ht
    have hz := decB_size 7 n (by omega)
    have HNUM : Hid (∀ z w, z = (n : Int) → Calls Tryz.prog 33 #[.int .i64 z] w fun e w' => e = .returned (.string (decB n)) ∧ w = w') := Lib.hid (fun z w hz => number_any n z w hz (by omega))
    generalize decB n = u at *
    have hz2 : ((⟨#[45]⟩ : ByteArray) ++ u).size ≤ 9 := by rw [ByteArray.size_append]; show 1 + u.size ≤ 9; omega
    have HT := Lib.hid ht
    clear ht
    go_enter Tryz.func102, Tryz.ntmps102
    go_wp2_with (go_at_call 33; refine (HNUM.out _ _ (by omega)).mono ?_; rintro e w' ⟨rfl, rfl⟩)
    go_ret
    exact ⟨by rw [HT.out]; first | done | rfl, rfl⟩
  · obtain ⟨n, rfl⟩ : ∃ n : Nat, v = (n : Int) := ⟨v.toNat, by omega⟩
    rw [itoaB_pos] at ht
    have HNUM : Hid (∀ w, Calls Tryz.prog 33 #[.int .i64 (n : Int)] w fun e w' => e = .returned (.string t) ∧ w = w') := Lib.hid (fun w => by rw [← ht]; exact number_any n _ w rfl (by omega))
    clear ht
    go_enter Tryz.func102, Tryz.ntmps102
    go_wp2_with (go_at_call 33; refine (HNUM.out _).mono ?_; rintro e w' ⟨rfl, rfl⟩)
    go_ret
    exact ⟨rfl, rfl⟩


theorem enum_size {ds : List D} (hv : vEnum ds = true) : (linesB ds).size ≤ 192 := by
  have h := linesB_size ds (enum_small hv)
  have := vEnum_len hv
  omega
end Go.Proofs.YtiebdhbioccogaaGreatDoor

namespace Go.Proofs.YtiebdhbioccogaaGreatDoor
open Go.RowKit
set_option linter.unusedVariables false
set_option linter.unusedSimpArgs false
set_option maxRecDepth 100000


end Go.Proofs.YtiebdhbioccogaaGreatDoor

namespace Go.Proofs.YtiebdhbioccogaaGreatDoor
open Go.RowKit
set_option linter.unusedVariables false
set_option linter.unusedSimpArgs false
set_option maxRecDepth 100000

def bws : List ByteArray := [⟨#[115, 116, 114, 105, 99, 116]⟩, ⟨#[102, 105, 116]⟩, ⟨#[101, 106, 101, 99, 116]⟩, ⟨#[107, 101, 101, 112]⟩]
def fhs : List ByteArray := [⟨#[102, 108, 97, 103, 32, 115, 116, 114, 105, 99, 116]⟩, ⟨#[102, 108, 97, 103, 32, 102, 105, 116]⟩, ⟨#[102, 108, 97, 103, 32, 101, 106, 101, 99, 116]⟩, ⟨#[102, 108, 97, 103, 32, 107, 101, 101, 112]⟩]
theorem bws_at {j : Nat} (hj : j < bws.length) : bws[j] = boundB (j : Int) := by
  have h4 : j < 4 := hj
  rcases (show j = 0 ∨ j = 1 ∨ j = 2 ∨ j = 3 by omega) with rfl | rfl | rfl | rfl <;> rfl
theorem fhs_at {j : Nat} (hj : j < fhs.length) : fhs[j] = flagB ++ boundB (j : Int) := by
  have h4 : j < 4 := hj
  rcases (show j = 0 ∨ j = 1 ∨ j = 2 ∨ j = 3 by omega) with rfl | rfl | rfl | rfl <;> rfl
/-- Four texts, made. -/
theorem four_made (w : World) (a b c d : ByteArray) (ha : a.size ≤ 100 ∧ b.size ≤ 100 ∧ c.size ≤ 100 ∧ d.size ≤ 100) : SS (w.alloc (.cells #[.string a, .string b, .string c, .string d] 9)) (w.alloc (.cells #[.string a, .string b, .string c, .string d] 9)).heap.size (some ⟨w.heap.size, 0, none⟩) 4 4 [a, b, c, d] := by
  refine ⟨.inr ⟨w.heap.size, 0, rfl, by simp, fun i x hi j v hj => ?_⟩, rfl, Nat.le_refl _, by unfold maxLen; omega, fun s hs => ?_⟩
  · obtain ⟨hil, rfl⟩ := List.getElem?_eq_some_iff.1 hi
    have h4 : i < 4 := by simpa using hil
    match j, hj with
    | 0, hj =>
      rcases (show i = 0 ∨ i = 1 ∨ i = 2 ∨ i = 3 by omega) with rfl | rfl | rfl | rfl <;> (simp [encS] at hj; subst hj; simp [go_sem])
    | j + 1, hj => simp [encS] at hj
  · obtain ⟨h1, h2, h3, h4⟩ := ha
    simp only [List.mem_cons, List.not_mem_nil, or_false] at hs
    unfold maxLen
    rcases hs with rfl | rfl | rfl | rfl <;> omega

set_option maxHeartbeats 1000000 in
theorem boundWords_v (w : World) : Calls Tryz.prog 57 #[] w fun e w' => ∃ (A : Option Addr) (c : Nat), e = .returned (.slice A 4 c) ∧ SS w' w'.heap.size A 4 c bws ∧ Below w.heap.size w w' := by
  have HS := Lib.hid (four_made w ⟨#[115, 116, 114, 105, 99, 116]⟩ ⟨#[102, 105, 116]⟩ ⟨#[101, 106, 101, 99, 116]⟩ ⟨#[107, 101, 101, 112]⟩ (by decide))
  have HB : Hid (Below w.heap.size w (w.alloc (.cells #[.string ⟨#[115, 116, 114, 105, 99, 116]⟩, .string ⟨#[102, 105, 116]⟩, .string ⟨#[101, 106, 101, 99, 116]⟩, .string ⟨#[107, 101, 101, 112]⟩] 9))) := Lib.hid ((Below.refl _ _).alloc (Nat.le_refl _) _)
  go_enter Tryz.func57, Tryz.ntmps57
  go_wp2
  go_ret
  exact ⟨_, _, rfl, HS.out, HB.out⟩
set_option maxHeartbeats 1000000 in
theorem flagHeads_v (w : World) : Calls Tryz.prog 43 #[] w fun e w' => ∃ (A : Option Addr) (c : Nat), e = .returned (.slice A 4 c) ∧ SS w' w'.heap.size A 4 c fhs ∧ Below w.heap.size w w' := by
  have HS := Lib.hid (four_made w ⟨#[102, 108, 97, 103, 32, 115, 116, 114, 105, 99, 116]⟩ ⟨#[102, 108, 97, 103, 32, 102, 105, 116]⟩ ⟨#[102, 108, 97, 103, 32, 101, 106, 101, 99, 116]⟩ ⟨#[102, 108, 97, 103, 32, 107, 101, 101, 112]⟩ (by decide))
  have HB : Hid (Below w.heap.size w (w.alloc (.cells #[.string ⟨#[102, 108, 97, 103, 32, 115, 116, 114, 105, 99, 116]⟩, .string ⟨#[102, 108, 97, 103, 32, 102, 105, 116]⟩, .string ⟨#[102, 108, 97, 103, 32, 101, 106, 101, 99, 116]⟩, .string ⟨#[102, 108, 97, 103, 32, 107, 101, 101, 112]⟩] 9))) := Lib.hid ((Below.refl _ _).alloc (Nat.le_refl _) _)
  go_enter Tryz.func43, Tryz.ntmps43
  go_wp2
  go_ret
  exact ⟨_, _, rfl, HS.out, HB.out⟩
theorem boundB_size (b : Int) : (boundB b).size ≤ 6 := by
  unfold boundB
  split
  · decide
  · split
    · decide
    · split <;> decide


end Go.Proofs.YtiebdhbioccogaaGreatDoor

namespace Go.Proofs.YtiebdhbioccogaaGreatDoor
open Go.RowKit
set_option linter.unusedVariables false
set_option maxRecDepth 100000

/-! ### a text of a class, as the model reads it: no program in sight -/
/-- The first line of a text, and the items of the others. -/
def itemsOf (f : ByteArray → Option It) (s : ByteArray) : Option (ByteArray × List It) := match mLn s with
  | some (h :: ls) => (match allIt f ls with | some ts => some (h, ts) | none => none)
  | _ => none
theorem itemsOf_no {f : ByteArray → Option It} {s : ByteArray} (h : mLn s = none) : itemsOf f s = none := by unfold itemsOf; rw [h]
theorem itemsOf_bad {f : ByteArray → Option It} {s h : ByteArray} {ls : List ByteArray} (hl : mLn s = some (h :: ls)) (ha : allIt f ls = none) : itemsOf f s = none := by unfold itemsOf; rw [hl]; simp only; rw [ha]
theorem itemsOf_yes {f : ByteArray → Option It} {s h : ByteArray} {ls : List ByteArray} {ts : List It} (hl : mLn s = some (h :: ls)) (ha : allIt f ls = some ts) : itemsOf f s = some (h, ts) := by unfold itemsOf; rw [hl]; simp only; rw [ha]
theorem mLn_some {s : ByteArray} {l : List ByteArray} (h : mLn s = some l) : ∃ x r, l = x :: r := by
  unfold mLn at h
  split at h
  · rename_i h2
    cases h
    cases e : (splitT 10 s).dropLast with
    | nil =>
      have := congrArg List.length e
      rw [List.length_dropLast, List.length_nil] at this
      omega
    | cons x r => exact ⟨x, r, rfl⟩
  · cases h
/-- Both readers read the same, or what only the program reads has an item that is none. -/
theorem items_two (s : ByteArray) : itemsOf itS s = itemsOf itI s ∨ (itemsOf itS s = none ∧ ∃ h ts, itemsOf itI s = some (h, ts) ∧ ∃ x ∈ ts, badIt x) := by
  cases hm : mLn s with
  | none => exact .inl (by rw [itemsOf_no hm, itemsOf_no hm])
  | some l =>
    obtain ⟨h, ls, rfl⟩ := mLn_some hm
    cases ha : allIt itS ls with
    | some ts => exact .inl (by rw [itemsOf_yes hm ha, itemsOf_yes hm (all_same ha)])
    | none =>
      rcases all_none ha with h2 | ⟨ts, h2, hb⟩
      · exact .inl (by rw [itemsOf_bad hm ha, itemsOf_bad hm h2])
      · exact .inr ⟨itemsOf_bad hm ha, h, ts, itemsOf_yes hm h2, hb⟩
def mPE (s : ByteArray) : List D := match itemsOf itS s with | some (h, ts) => if h = enumB then mBuild ts else [] | none => []
def okPE (s : ByteArray) : Bool := match itemsOf itS s with | some (h, ts) => decide (h = enumB) && built ts | none => false
theorem mBuild_no {ts : List It} (h : built ts = false) : mBuild ts = [] := by unfold mBuild; rw [h]; rfl
theorem pe_no {s : ByteArray} (h : itemsOf itS s = none) : mPE s = [] ∧ okPE s = false := by unfold mPE okPE; rw [h]; exact ⟨rfl, rfl⟩
theorem pe_yes {s h : ByteArray} {ts : List It} (hi : itemsOf itS s = some (h, ts)) : mPE s = (if h = enumB then mBuild ts else []) ∧ okPE s = (decide (h = enumB) && built ts) := by unfold mPE okPE; rw [hi]; exact ⟨rfl, rfl⟩
theorem pe_noI {s : ByteArray} (h : itemsOf itI s = none) : mPE s = [] ∧ okPE s = false := by
  rcases items_two s with h2 | ⟨h2, _⟩
  · exact pe_no (h2.trans h)
  · exact pe_no h2
theorem pe_yesI {s h : ByteArray} {ts : List It} (hi : itemsOf itI s = some (h, ts)) : mPE s = (if h = enumB then mBuild ts else []) ∧ okPE s = (decide (h = enumB) && built ts) := by
  rcases items_two s with h2 | ⟨h2, h', ts', h3, hb⟩
  · exact pe_yes (h2.trans hi)
  · rw [hi] at h3
    obtain ⟨rfl, rfl⟩ := Prod.mk.inj (Option.some.inj h3)
    obtain ⟨e1, e2⟩ := pe_no h2
    have hf := bad_built hb
    rw [e1, e2, mBuild_no hf, hf, Bool.and_false]
    exact ⟨by split <;> rfl, rfl⟩

/-! ### the bound of a first line -/
def isS (h : ByteArray) (x : ByteArray) : Bool := decide (h = x)
def bndH (h : ByteArray) : Int := fidx (isS h) fhs
def mPF (s : ByteArray) : List D := match itemsOf itS s with | some (h, ts) => mBldF ts (bndH h) | none => []
def bPF (s : ByteArray) : Int := match itemsOf itS s with | some (h, ts) => mBldB ts (bndH h) | none => 0
def okPF (s : ByteArray) : Bool := match itemsOf itS s with | some (h, ts) => builtF ts (bndH h) | none => false
theorem mBldF_no {ts : List It} {b : Int} (h : builtF ts b = false) : mBldF ts b = [] ∧ mBldB ts b = 0 := by unfold mBldF mBldB; rw [h]; exact ⟨rfl, rfl⟩
theorem pf_no {s : ByteArray} (h : itemsOf itS s = none) : mPF s = [] ∧ bPF s = 0 ∧ okPF s = false := by unfold mPF bPF okPF; rw [h]; exact ⟨rfl, rfl, rfl⟩
theorem pf_yes {s h : ByteArray} {ts : List It} (hi : itemsOf itS s = some (h, ts)) : mPF s = mBldF ts (bndH h) ∧ bPF s = mBldB ts (bndH h) ∧ okPF s = builtF ts (bndH h) := by unfold mPF bPF okPF; rw [hi]; exact ⟨rfl, rfl, rfl⟩
theorem pf_noI {s : ByteArray} (h : itemsOf itI s = none) : mPF s = [] ∧ bPF s = 0 ∧ okPF s = false := by
  rcases items_two s with h2 | ⟨h2, _⟩
  · exact pf_no (h2.trans h)
  · exact pf_no h2
theorem pf_yesI {s h : ByteArray} {ts : List It} (hi : itemsOf itI s = some (h, ts)) : mPF s = mBldF ts (bndH h) ∧ bPF s = mBldB ts (bndH h) ∧ okPF s = builtF ts (bndH h) := by
  rcases items_two s with h2 | ⟨h2, h', ts', h3, hb⟩
  · exact pf_yes (h2.trans hi)
  · rw [hi] at h3
    obtain ⟨rfl, rfl⟩ := Prod.mk.inj (Option.some.inj h3)
    obtain ⟨e1, e2, e3⟩ := pf_no h2
    have hf := bad_builtF (b := bndH h) hb
    obtain ⟨g1, g2⟩ := mBldF_no hf
    rw [e1, e2, e3, g1, g2, hf]
    exact ⟨rfl, rfl, rfl⟩
theorem builtF_neg {ts : List It} {b : Int} (h : b < 0) : builtF ts b = false := by
  unfold builtF
  cases hv : vFlag (bldF ts ts.length) b
  · rw [Bool.and_false]
  · exfalso
    unfold vFlag at hv
    simp only [Bool.and_eq_true, decide_eq_true_eq] at hv
    omega
theorem bndH_cases (h : ByteArray) : (bndH h = -1 ∧ ∀ j (hj : j < fhs.length), h ≠ fhs[j]) ∨ ∃ j : Nat, ∃ hj : j < fhs.length, bndH h = (j : Int) ∧ h = fhs[j] := by
  unfold bndH
  rcases fidx_cases (isS h) fhs with ⟨e, hn⟩ | ⟨k, hk, e, hp, _⟩
  · refine .inl ⟨e, fun j hj he => ?_⟩
    have := hn j hj hj
    unfold isS at this
    rw [decide_eq_true he] at this
    cases this
  · refine .inr ⟨k, hk, e, ?_⟩
    unfold isS at hp
    exact of_decide_eq_true hp
theorem vEnum_dok {ds : List D} (hv : vEnum ds = true) : ∀ d ∈ ds, d.ok := by
  intro d hd
  obtain ⟨a, b, c⟩ := enum_small hv d hd
  exact ⟨by unfold maxLen; omega, by omega, by omega⟩
theorem vFlag_dok {ds : List D} {b : Int} (hv : vFlag ds b = true) : ∀ d ∈ ds, d.ok := by
  intro d hd
  obtain ⟨a, b, c⟩ := flag_small hv d hd
  exact ⟨by unfold maxLen; omega, by omega, by omega⟩
theorem mPE_dok (s : ByteArray) : (∀ d ∈ mPE s, d.ok) ∧ (mPE s).length ≤ 12 := by
  cases hi : itemsOf itS s with
  | none => rw [(pe_no hi).1]; exact ⟨fun d hd => (by cases hd), Nat.zero_le _⟩
  | some p =>
    obtain ⟨h, ts⟩ := p
    rw [(pe_yes hi).1]
    split
    · cases hb : built ts
      · rw [mBuild_no hb]; exact ⟨fun d hd => (by cases hd), Nat.zero_le _⟩
      · have e : mBuild ts = bld ts ts.length := by unfold mBuild; rw [hb]; rfl
        unfold built at hb
        rw [Bool.and_eq_true] at hb
        rw [e]
        exact ⟨vEnum_dok hb.2, vEnum_len hb.2⟩
    · exact ⟨fun d hd => (by cases hd), Nat.zero_le _⟩
theorem mPF_dok (s : ByteArray) : (∀ d ∈ mPF s, d.ok) ∧ (mPF s).length ≤ 12 := by
  cases hi : itemsOf itS s with
  | none => rw [(pf_no hi).1]; exact ⟨fun d hd => (by cases hd), Nat.zero_le _⟩
  | some p =>
    obtain ⟨h, ts⟩ := p
    rw [(pf_yes hi).1]
    refine ⟨?_, mBldF_len ts _⟩
    cases hb : builtF ts (bndH h)
    · rw [(mBldF_no hb).1]; exact fun d hd => (by cases hd)
    · have e : mBldF ts (bndH h) = bldF ts ts.length := by unfold mBldF; rw [hb]; rfl
      unfold builtF at hb
      rw [Bool.and_eq_true] at hb
      rw [e]
      exact vFlag_dok hb.2

/-! ### items that are read one by one -/
def stAt (f : ByteArray → Option It) (l : List ByteArray) (k : Nat) (us : List It) : Prop :=
  allIt f l = (match allIt f (l.drop k) with | some r => some (us ++ r) | none => none)
theorem stAt_zero (f : ByteArray → Option It) (l : List ByteArray) : stAt f l 0 [] := by
  unfold stAt
  rw [List.drop_zero]
  cases allIt f l <;> rfl
theorem stAt_bad {f : ByteArray → Option It} {l : List ByteArray} {k : Nat} {us : List It} (hk : k < l.length) (h : stAt f l k us) (hn : f l[k] = none) : allIt f l = none := by
  unfold stAt at h
  rw [h, List.drop_eq_getElem_cons hk, allIt, hn]
theorem stAt_step {f : ByteArray → Option It} {l : List ByteArray} {k : Nat} {us : List It} {x : It} (hk : k < l.length) (h : stAt f l k us) (hn : f l[k] = some x) : stAt f l (k + 1) (us ++ [x]) := by
  unfold stAt at h ⊢
  rw [h, List.drop_eq_getElem_cons hk, allIt, hn]
  simp only
  cases allIt f (l.drop (k + 1)) with
  | none => rfl
  | some r => simp
theorem stAt_end {f : ByteArray → Option It} {l : List ByteArray} {us : List It} (h : stAt f l l.length us) : allIt f l = some us := by
  unfold stAt at h
  rw [h, List.drop_eq_nil_of_le (Nat.le_refl _), allIt]
  simp
theorem itS_ok {s : ByteArray} (hs : s.size ≤ 1048576) {x : It} (h : itS s = some x) : x.ok := by
  unfold itS at h
  split at h
  · cases h
    exact ⟨by show s.size ≤ maxLen; unfold maxLen; omega, (by decide : (-9223372036854775808 : Int) ≤ 0), (by decide : (0 : Int) ≤ 9223372036854775807)⟩
  · rename_i a e c hw
    split at h
    · split at h
      · rename_i v hv
        cases h
        have h1 := splitT_size 32 s a (by rw [hw]; simp)
        have h2 := (rdSg_num hv).2
        exact ⟨by show a.size ≤ maxLen; unfold maxLen; omega, by show _ ≤ v; omega, by show v ≤ _; omega⟩
      · cases h
    · cases h
  · cases h
theorem cut_le (s t : List UInt8) : (Lib.cut s t).1.length ≤ s.length := by
  unfold Lib.cut
  split
  · show (s.take _).length ≤ _
    rw [List.length_take]
    exact Nat.min_le_right _ _
  · exact Nat.le_refl _
theorem cut_le2 (s t : List UInt8) : (Lib.cut s t).2.1.length ≤ s.length := by
  unfold Lib.cut
  split
  · show (s.drop _).length ≤ _
    rw [List.length_drop]
    exact Nat.sub_le _ _
  · exact Nat.zero_le _
theorem mLn_size {s : ByteArray} {l : List ByteArray} (h : mLn s = some l) : ∀ x ∈ l, x.size ≤ s.size := by
  unfold mLn at h
  split at h
  · cases h
    exact fun x hx => splitT_size 10 s x ((List.dropLast_sublist _).mem hx)
  · cases h
theorem mLn_len {s : ByteArray} {l : List ByteArray} (h : mLn s = some l) : l.length ≤ s.size + 1 := by
  unfold mLn at h
  split at h
  · cases h
    have := (splitT_len 10 s).1
    rw [List.length_dropLast]
    omega
  · cases h
theorem itI_ok {s : ByteArray} (hs : s.size ≤ 1048576) {x : It} (h : itI s = some x) : x.ok := by
  unfold itI at h
  split at h
  · split at h
    · rename_i v hv
      cases h
      have h1 := cut_le s.data.toList eqB.data.toList
      rw [Array.length_toList] at h1
      have h2 := (numOf_some hv).2
      refine ⟨?_, h2.1, h2.2⟩
      show ((Lib.cut s.data.toList eqB.data.toList).1.toArray).size ≤ maxLen
      rw [List.size_toArray]
      have h3 : s.data.size = s.size := rfl
      unfold maxLen
      omega
    · cases h
  · cases h
    exact ⟨by show s.size ≤ maxLen; unfold maxLen; omega, (by decide : (-9223372036854775808 : Int) ≤ 0), (by decide : (0 : Int) ≤ 9223372036854775807)⟩
/-- The lines of a text, told by its parts between newlines. -/
theorem lines_three {ls : List ByteArray} (h : 2 ≤ ls.length) : ∃ (x : ByteArray) (mid : List ByteArray) (last : ByteArray), ls = x :: (mid ++ [last]) := by
  rcases ls with _ | ⟨x, r⟩
  · simp at h
  · rcases List.eq_nil_or_concat r with rfl | ⟨mid, last, rfl⟩
    · simp at h
    · exact ⟨x, mid, last, by simp⟩
theorem mLn_parts {s x last : ByteArray} {mid : List ByteArray} (h : splitT 10 s = x :: (mid ++ [last])) : mLn s = if last = ⟨#[]⟩ then some (x :: mid) else none := by
  unfold mLn
  have e : x :: (mid ++ [last]) = (x :: mid) ++ [last] := rfl
  rw [h, e, List.getLast?_concat, List.dropLast_concat]
  have h2 : 2 ≤ ((x :: mid) ++ [last]).length := by simp
  by_cases hl : last = ⟨#[]⟩
  · rw [if_pos hl, if_pos ⟨h2, by rw [hl]⟩]
  · rw [if_neg hl, if_neg (fun h => hl (Option.some.inj h.2))]
theorem mLn_short {s : ByteArray} (h : (splitT 10 s).length < 2) : mLn s = none := by
  unfold mLn
  rw [if_neg (fun h2 => by omega)]
end Go.Proofs.YtiebdhbioccogaaGreatDoor

