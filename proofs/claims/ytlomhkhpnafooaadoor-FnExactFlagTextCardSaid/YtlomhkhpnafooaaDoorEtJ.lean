import Derived.Test.YtlomhkhpnafooaaDoorEtI
import Derived.Test.YtlomhkhpnafooaaDoorBaseE
import Derived.Test.YtlomhkhpnafooaaDoorBaseD
namespace Go.Proofs.YtlomhkhpnafooaaDoor
open Go.RowKit
set_option linter.unusedVariables false
set_option linter.unusedSimpArgs false
set_option maxRecDepth 100000

def bws : List ByteArray := [⟨#[115, 116, 114, 105, 99, 116]⟩, ⟨#[102, 105, 116]⟩, ⟨#[101, 106, 101, 99, 116]⟩, ⟨#[107, 101, 101, 112]⟩]
def fhs : List ByteArray := [⟨#[102, 108, 97, 103, 32, 115, 116, 114, 105, 99, 116]⟩, ⟨#[102, 108, 97, 103, 32, 102, 105, 116]⟩, ⟨#[102, 108, 97, 103, 32, 101, 106, 101, 99, 116]⟩, ⟨#[102, 108, 97, 103, 32, 107, 101, 101, 112]⟩]
theorem bws_at {j : Nat} (hj : j < bws.length) : bws[j] = boundB (j : Int) := by
  have h4 : j < 4 := hj
  rcases (show j = 0 ∨ j = 1 ∨ j = 2 ∨ j = 3 by omega) with rfl | rfl | rfl | rfl <;> rfl
theorem fhs_at {j : Nat} (hj : j < fhs.length) : fhs[j] = flagB ++ boundB (j : Int) := by
  have h4 : j < 4 := hj
  rcases (show j = 0 ∨ j = 1 ∨ j = 2 ∨ j = 3 by omega) with rfl | rfl | rfl | rfl <;> rfl
/-- Four texts, made. -/
theorem four_made (w : World) (a b c d : ByteArray) (ha : a.size ≤ 100 ∧ b.size ≤ 100 ∧ c.size ≤ 100 ∧ d.size ≤ 100) : SS (w.alloc (.cells #[.string a, .string b, .string c, .string d] 9)) (w.alloc (.cells #[.string a, .string b, .string c, .string d] 9)).heap.size (some ⟨w.heap.size, 0, none⟩) 4 4 [a, b, c, d] := by
  refine ⟨.inr ⟨w.heap.size, 0, rfl, by simp, fun i x hi j v hj => ?_⟩, rfl, Nat.le_refl _, by unfold maxLen; omega, fun s hs => ?_⟩
  · obtain ⟨hil, rfl⟩ := List.getElem?_eq_some_iff.1 hi
    have h4 : i < 4 := by simpa using hil
    match j, hj with
    | 0, hj =>
      rcases (show i = 0 ∨ i = 1 ∨ i = 2 ∨ i = 3 by omega) with rfl | rfl | rfl | rfl <;> (simp [encS] at hj; subst hj; simp [go_sem])
    | j + 1, hj => simp [encS] at hj
  · obtain ⟨h1, h2, h3, h4⟩ := ha
    simp only [List.mem_cons, List.not_mem_nil, or_false] at hs
    unfold maxLen
    rcases hs with rfl | rfl | rfl | rfl <;> omega

set_option maxHeartbeats 1000000 in
theorem boundWords_v (w : World) : Calls Tryd.prog 57 #[] w fun e w' => ∃ (A : Option Addr) (c : Nat), e = .returned (.slice A 4 c) ∧ SS w' w'.heap.size A 4 c bws ∧ Below w.heap.size w w' := by
  have HS := Lib.hid (four_made w ⟨#[115, 116, 114, 105, 99, 116]⟩ ⟨#[102, 105, 116]⟩ ⟨#[101, 106, 101, 99, 116]⟩ ⟨#[107, 101, 101, 112]⟩ (by decide))
  have HB : Hid (Below w.heap.size w (w.alloc (.cells #[.string ⟨#[115, 116, 114, 105, 99, 116]⟩, .string ⟨#[102, 105, 116]⟩, .string ⟨#[101, 106, 101, 99, 116]⟩, .string ⟨#[107, 101, 101, 112]⟩] 9))) := Lib.hid ((Below.refl _ _).alloc (Nat.le_refl _) _)
  go_enter Tryd.func57, Tryd.ntmps57
  go_wp2
  go_ret
  exact ⟨_, _, rfl, HS.out, HB.out⟩
set_option maxHeartbeats 1000000 in
theorem flagHeads_v (w : World) : Calls Tryd.prog 58 #[] w fun e w' => ∃ (A : Option Addr) (c : Nat), e = .returned (.slice A 4 c) ∧ SS w' w'.heap.size A 4 c fhs ∧ Below w.heap.size w w' := by
  have HS := Lib.hid (four_made w ⟨#[102, 108, 97, 103, 32, 115, 116, 114, 105, 99, 116]⟩ ⟨#[102, 108, 97, 103, 32, 102, 105, 116]⟩ ⟨#[102, 108, 97, 103, 32, 101, 106, 101, 99, 116]⟩ ⟨#[102, 108, 97, 103, 32, 107, 101, 101, 112]⟩ (by decide))
  have HB : Hid (Below w.heap.size w (w.alloc (.cells #[.string ⟨#[102, 108, 97, 103, 32, 115, 116, 114, 105, 99, 116]⟩, .string ⟨#[102, 108, 97, 103, 32, 102, 105, 116]⟩, .string ⟨#[102, 108, 97, 103, 32, 101, 106, 101, 99, 116]⟩, .string ⟨#[102, 108, 97, 103, 32, 107, 101, 101, 112]⟩] 9))) := Lib.hid ((Below.refl _ _).alloc (Nat.le_refl _) _)
  go_enter Tryd.func58, Tryd.ntmps58
  go_wp2
  go_ret
  exact ⟨_, _, rfl, HS.out, HB.out⟩
theorem boundB_size (b : Int) : (boundB b).size ≤ 6 := by
  unfold boundB
  split
  · decide
  · split
    · decide
    · split <;> decide

set_option maxHeartbeats 8000000 in
theorem specFlagT_v (ds : List D) (b : Int) (A : Option Addr) (m c : Nat) (w : World) (hr : SD w w.heap.size A m c ds) :
    Calls Tryd.prog 20 #[.agg #[.slice A m c, .int .i64 b]] w (fun e w' => e = .returned (.string (mFlagT ds b)) ∧ Below w.heap.size w w') := by
  have HF := Lib.hid (FB.start hr b)
  clear hr
  cases hv : vFlag ds b
  · have HV := Lib.hid hv
    have HM : Hid (mFlagT ds b = ⟨#[]⟩) := Lib.hid (by unfold mFlagT; rw [hv]; rfl)
    clear hv
    go_enter Tryd.func20, Tryd.ntmps20
    go_wp2_with (go_at_call 56; refine (specVF_v ds b _ _ _ _ HF.out.sd HV.out).mono ?_; rintro e w' ⟨rfl, hb⟩)
    go_ret
    exact ⟨by rw [HM.out]; first | done | rfl, HF.out.after hb⟩
  have HV := Lib.hid hv
  obtain ⟨j, rfl⟩ : ∃ j : Nat, b = j := ⟨b.toNat, by have := vFlag_bound hv; omega⟩
  have hj4 : j < 4 := by have := vFlag_bound hv; omega
  have HBW := Lib.hid (bws_at (j := j) hj4)
  have hls : (linesB ds).size ≤ 200 := by
    have h := linesB_size ds (flag_small hv)
    have := vFlag_len hv
    omega
  have hus := boundB_size (j : Int)
  have HSM : Hid (∀ d ∈ ds, Sm d) := Lib.hid (flag_small hv)
  have HLN : Hid (ds.length ≤ 100) := Lib.hid (by have := vFlag_len hv; omega)
  have HM0 : Hid (mFlagT ds j = ((flagB ++ boundB j) ++ nlB) ++ linesB ds) := Lib.hid (by unfold mFlagT; rw [hv]; rfl)
  obtain ⟨u, hu⟩ : ∃ u, boundB (j : Int) = u := ⟨_, rfl⟩
  obtain ⟨t, ht⟩ : ∃ t, linesB ds = t := ⟨_, rfl⟩
  rw [hu] at HBW HM0 hus
  rw [ht] at HM0 hls
  have HM : Hid (mFlagT ds j = (((⟨#[102, 108, 97, 103, 32]⟩ : ByteArray) ++ u) ++ (⟨#[10]⟩ : ByteArray)) ++ t) := HM0
  have HDL : Hid (∀ (A : Option Addr) (n c : Nat) (w : World), SD w w.heap.size A n c ds → Calls Tryd.prog 52 #[.slice A n c] w fun e w' => e = .returned (.string t) ∧ Below w.heap.size w w') := Lib.hid (fun A n c w hr => by rw [← ht]; exact defLines_v ds A n c w hr HSM.out HLN.out)
  have hz1 : ((⟨#[102, 108, 97, 103, 32]⟩ : ByteArray) ++ u).size ≤ 11 := by rw [ByteArray.size_append]; show 5 + _ ≤ 11; omega
  have hz2 : (((⟨#[102, 108, 97, 103, 32]⟩ : ByteArray) ++ u) ++ (⟨#[10]⟩ : ByteArray)).size ≤ 12 := by rw [ByteArray.size_append]; show _ + 1 ≤ 12; omega
  have hz3 : ((((⟨#[102, 108, 97, 103, 32]⟩ : ByteArray) ++ u) ++ (⟨#[10]⟩ : ByteArray)) ++ t).size ≤ 300 := by rw [ByteArray.size_append]; omega
  have hj0 : (0 : Int) ≤ (j : Int) := by omega
  have hj1 : (j : Int) < 4 := by omega
  clear hv hu ht HM0 HSM HLN
  go_enter Tryd.func20, Tryd.ntmps20
  go_wp2_with fail
  refine (specVF_v ds j _ _ _ _ HF.out.sd HV.out).mono ?_
  rintro e w1 ⟨rfl, hb⟩
  have HF1 := Lib.hid (HF.out.call hb)
  have c0 := HF1.out.c0
  have c1 := HF1.out.c1
  clear hb HF
  go_wp2_with fail
  refine wp_region_held_drew (S := fun w' => w'.cell? ⟨w.heap.size, 0, none⟩ = some (.slice A m c) ∧ w'.cell? ⟨w.heap.size, 1, none⟩ = some (.int .i64 (j : Int))) (by kernel_rfl) ⟨c0, c1⟩ (fun hHeld => ?_)
  generalize hwd : w1.drew = w3 at hHeld ⊢
  have HFw3 : Hid (FB w w3 w.heap.size A m c ds (j : Int)) := Lib.hid (by rw [← hwd]; exact HF1.out.drewN 1)
  clear hwd HF1 c0 c1
  refine wpAnyH_take (i := 1) (v := ?_) rfl (by kernel_rfl) (by kernel_rfl) (by kernel_rfl) (fun _ _ _ h => h) (Or.inl ⟨by kernel_rfl, ?_⟩) hHeld ?_
  rotate_left
  · intro wz hSw
    obtain ⟨s0, s1⟩ := hSw
    first
    | (go_simp; done)
    | (go_simp; with_reducible rfl)
    | (go_simp; omega)
  try simp only [Act.put, List.setIfInBounds_toArray, List.set_cons_zero, List.set_cons_succ]
  refine wpAnyH_take (i := 2) (v := ?_) rfl (by kernel_rfl) (by kernel_rfl) (by kernel_rfl) (fun _ _ _ h => h) (Or.inl ⟨by kernel_rfl, ?_⟩) hHeld ?_
  rotate_left
  · intro wz hSw
    obtain ⟨s0, s1⟩ := hSw
    first
    | (go_simp; done)
    | (go_simp; with_reducible rfl)
    | (go_simp; omega)
  try simp only [Act.put, List.setIfInBounds_toArray, List.set_cons_zero, List.set_cons_succ]
  refine wpAnyH_take (i := 7) (v := ?_) rfl (by kernel_rfl) (by kernel_rfl) (by kernel_rfl) (fun _ _ _ h => h) (Or.inl ⟨by kernel_rfl, ?_⟩) hHeld ?_
  rotate_left
  · intro wz hSw
    obtain ⟨s0, s1⟩ := hSw
    first
    | (go_simp; done)
    | (go_simp; with_reducible rfl)
    | (go_simp; omega)
  try simp only [Act.put, List.setIfInBounds_toArray, List.set_cons_zero, List.set_cons_succ]
  refine wpAnyH_take (i := 8) (v := ?_) rfl (by kernel_rfl) (by kernel_rfl) (by kernel_rfl) (fun _ _ _ h => h) (Or.inl ⟨by kernel_rfl, ?_⟩) hHeld ?_
  rotate_left
  · intro wz hSw
    obtain ⟨s0, s1⟩ := hSw
    first
    | (go_simp; done)
    | (go_simp; with_reducible rfl)
    | (go_simp; omega)
  try simp only [Act.put, List.setIfInBounds_toArray, List.set_cons_zero, List.set_cons_succ]
  refine wpAnyH_ready (rs := [0]) (by kernel_rfl) (by simp) ?_
  refine AllReadyH.cons rfl (fun K hK => ?_) AllReadyH.nil
  go_simp
  refine (boundWords_v w3).mono ?_
  rintro e w4 ⟨Aw, cw, rfl, hss, hb⟩
  have HFw4 := Lib.hid (HFw3.out.call hb)
  have a0w4 := HFw4.out.c0
  have a1w4 := HFw4.out.c1
  obtain ⟨bb, oo, rfl, hbb, xxw4⟩ := hss.at_ (k := j) hj4
  rw [HBW.out] at xxw4
  clear hss hb
  go_simp
  refine hK.out _ _ ⟨a0w4, a1w4⟩ (fun hHeld => ?_)
  clear hK K
  try simp only [Act.put, List.setIfInBounds_toArray, List.set_cons_zero, List.set_cons_succ]
  refine wpAnyH_take (i := 3) (v := ?_) rfl (by kernel_rfl) (by kernel_rfl) (by kernel_rfl) (fun _ _ _ h => h) (Or.inl ⟨by kernel_rfl, ?_⟩) hHeld ?_
  rotate_left
  · intro wz hSw
    obtain ⟨s0, s1⟩ := hSw
    first
    | (go_simp; done)
    | (go_simp; with_reducible rfl)
    | (go_simp; omega)
  try simp only [Act.put, List.setIfInBounds_toArray, List.set_cons_zero, List.set_cons_succ]
  refine wpAnyH_ready (rs := [4, 9]) (by kernel_rfl) (by simp) ?_
  refine AllReadyH.cons rfl (fun K hK => ?_) (AllReadyH.cons rfl (fun K hK => ?_) AllReadyH.nil)
  · go_simp
    refine hK.out _ _ ⟨a0w4, a1w4⟩ (fun hHeld => ?_)
    clear hK K
    try simp only [Act.put, List.setIfInBounds_toArray, List.set_cons_zero, List.set_cons_succ]
    refine wpAnyH_take (i := 5) (v := .string ((⟨#[102, 108, 97, 103, 32]⟩ : ByteArray) ++ u)) rfl (by kernel_rfl) (by kernel_rfl) (by kernel_rfl) (fun _ _ _ h => h) (Or.inl ⟨by kernel_rfl, ?_⟩) hHeld ?_
    · intro wz hSw
      obtain ⟨s0, s1⟩ := hSw
      first
      | (go_simp; done)
      | (go_simp; with_reducible rfl)
      | (go_simp; omega)
    try simp only [Act.put, List.setIfInBounds_toArray, List.set_cons_zero, List.set_cons_succ]
    refine wpAnyH_take (i := 6) (v := .string (((⟨#[102, 108, 97, 103, 32]⟩ : ByteArray) ++ u) ++ (⟨#[10]⟩ : ByteArray))) rfl (by kernel_rfl) (by kernel_rfl) (by kernel_rfl) (fun _ _ _ h => h) (Or.inl ⟨by kernel_rfl, ?_⟩) hHeld ?_
    · intro wz hSw
      obtain ⟨s0, s1⟩ := hSw
      first
      | (go_simp; done)
      | (go_simp; with_reducible rfl)
      | (go_simp; omega)
    try simp only [Act.put, List.setIfInBounds_toArray, List.set_cons_zero, List.set_cons_succ]
    refine wpAnyH_ready (rs := [9]) (by kernel_rfl) (by simp) ?_
    refine AllReadyH.cons rfl (fun K hK => ?_) AllReadyH.nil
    go_simp
    refine (HDL.out _ _ _ _ HFw4.out.sd).mono ?_
    rintro e w5 ⟨rfl, hb⟩
    have HFw5 := Lib.hid (HFw4.out.call hb)
    have a0w5 := HFw5.out.c0
    have a1w5 := HFw5.out.c1
    clear hb
    go_simp
    refine hK.out _ _ ⟨a0w5, a1w5⟩ (fun hHeld => ?_)
    clear hK K
    try simp only [Act.put, List.setIfInBounds_toArray, List.set_cons_zero, List.set_cons_succ]
    refine wpAnyH_take (i := 10) (v := .string ((((⟨#[102, 108, 97, 103, 32]⟩ : ByteArray) ++ u) ++ (⟨#[10]⟩ : ByteArray)) ++ t)) rfl (by kernel_rfl) (by kernel_rfl) (by kernel_rfl) (fun _ _ _ h => h) (Or.inl ⟨by kernel_rfl, ?_⟩) hHeld ?_
    · intro wz hSw
      obtain ⟨s0, s1⟩ := hSw
      first
      | (go_simp; done)
      | (go_simp; with_reducible rfl)
      | (go_simp; omega)
    try simp only [Act.put, List.setIfInBounds_toArray, List.set_cons_zero, List.set_cons_succ]
    refine wpAnyH_take (i := 11) (v := ?_) rfl (by kernel_rfl) (by kernel_rfl) (by kernel_rfl) (fun _ _ _ h => h) (Or.inl ⟨by kernel_rfl, ?_⟩) hHeld ?_
    rotate_left
    · intro wz hSw
      obtain ⟨s0, s1⟩ := hSw
      first
      | (go_simp; done)
      | (go_simp; with_reducible rfl)
      | (go_simp; omega)
    try simp only [Act.put, List.setIfInBounds_toArray, List.set_cons_zero, List.set_cons_succ]
    refine wpAnyH_done (by kernel_rfl) ?_ _
    try go_simp
    have HBZ := Lib.hid HFw5.out.bel
    go_wp2
    go_ret
    exact ⟨by rw [HM.out]; first | done | rfl, HBZ.out⟩
  · go_simp
    refine (HDL.out _ _ _ _ HFw4.out.sd).mono ?_
    rintro e w5 ⟨rfl, hb⟩
    have HFw5 := Lib.hid (HFw4.out.call hb)
    have a0w5 := HFw5.out.c0
    have a1w5 := HFw5.out.c1
    have xxw5 := keep1 hb xxw4
    clear hb
    go_simp
    refine hK.out _ _ ⟨a0w5, a1w5⟩ (fun hHeld => ?_)
    clear hK K
    try simp only [Act.put, List.setIfInBounds_toArray, List.set_cons_zero, List.set_cons_succ]
    refine wpAnyH_ready (rs := [4]) (by kernel_rfl) (by simp) ?_
    refine AllReadyH.cons rfl (fun K hK => ?_) AllReadyH.nil
    go_simp
    refine hK.out _ _ ⟨a0w5, a1w5⟩ (fun hHeld => ?_)
    clear hK K
    try simp only [Act.put, List.setIfInBounds_toArray, List.set_cons_zero, List.set_cons_succ]
    refine wpAnyH_take (i := 5) (v := .string ((⟨#[102, 108, 97, 103, 32]⟩ : ByteArray) ++ u)) rfl (by kernel_rfl) (by kernel_rfl) (by kernel_rfl) (fun _ _ _ h => h) (Or.inl ⟨by kernel_rfl, ?_⟩) hHeld ?_
    · intro wz hSw
      obtain ⟨s0, s1⟩ := hSw
      first
      | (go_simp; done)
      | (go_simp; with_reducible rfl)
      | (go_simp; omega)
    try simp only [Act.put, List.setIfInBounds_toArray, List.set_cons_zero, List.set_cons_succ]
    refine wpAnyH_take (i := 6) (v := .string (((⟨#[102, 108, 97, 103, 32]⟩ : ByteArray) ++ u) ++ (⟨#[10]⟩ : ByteArray))) rfl (by kernel_rfl) (by kernel_rfl) (by kernel_rfl) (fun _ _ _ h => h) (Or.inl ⟨by kernel_rfl, ?_⟩) hHeld ?_
    · intro wz hSw
      obtain ⟨s0, s1⟩ := hSw
      first
      | (go_simp; done)
      | (go_simp; with_reducible rfl)
      | (go_simp; omega)
    try simp only [Act.put, List.setIfInBounds_toArray, List.set_cons_zero, List.set_cons_succ]
    refine wpAnyH_take (i := 10) (v := .string ((((⟨#[102, 108, 97, 103, 32]⟩ : ByteArray) ++ u) ++ (⟨#[10]⟩ : ByteArray)) ++ t)) rfl (by kernel_rfl) (by kernel_rfl) (by kernel_rfl) (fun _ _ _ h => h) (Or.inl ⟨by kernel_rfl, ?_⟩) hHeld ?_
    · intro wz hSw
      obtain ⟨s0, s1⟩ := hSw
      first
      | (go_simp; done)
      | (go_simp; with_reducible rfl)
      | (go_simp; omega)
    try simp only [Act.put, List.setIfInBounds_toArray, List.set_cons_zero, List.set_cons_succ]
    refine wpAnyH_take (i := 11) (v := ?_) rfl (by kernel_rfl) (by kernel_rfl) (by kernel_rfl) (fun _ _ _ h => h) (Or.inl ⟨by kernel_rfl, ?_⟩) hHeld ?_
    rotate_left
    · intro wz hSw
      obtain ⟨s0, s1⟩ := hSw
      first
      | (go_simp; done)
      | (go_simp; with_reducible rfl)
      | (go_simp; omega)
    try simp only [Act.put, List.setIfInBounds_toArray, List.set_cons_zero, List.set_cons_succ]
    refine wpAnyH_done (by kernel_rfl) ?_ _
    try go_simp
    have HBZ := Lib.hid HFw5.out.bel
    go_wp2
    go_ret
    exact ⟨by rw [HM.out]; first | done | rfl, HBZ.out⟩

set_option maxHeartbeats 8000000 in
theorem implFlagT_v (ds : List D) (b : Int) (A : Option Addr) (m c : Nat) (w : World) (hr : SD w w.heap.size A m c ds) (hn : m ≤ 1048576) (hT : P10 w) (hG : p10G < w.heap.size) :
    Calls Tryd.prog 22 #[.agg #[.slice A m c, .int .i64 b]] w (fun e w' => e = .returned (.string (mFlagT ds b)) ∧ Below w.heap.size w w') := by
  have HF := Lib.hid (FB.start hr b)
  have HT := Lib.hid hT
  clear hr hT
  cases hv : vFlag ds b
  · have HV := Lib.hid hv
    have HM : Hid (mFlagT ds b = ⟨#[]⟩) := Lib.hid (by unfold mFlagT; rw [hv]; rfl)
    clear hv
    go_enter Tryd.func22, Tryd.ntmps22
    go_wp2_with (go_at_call 49; refine (implVF_v ds b _ _ _ _ HF.out.sd hn HV.out).mono ?_; rintro e w' ⟨rfl, hb⟩)
    go_ret
    exact ⟨by rw [HM.out]; first | done | rfl, HF.out.after hb⟩
  have HV := Lib.hid hv
  obtain ⟨j, rfl⟩ : ∃ j : Nat, b = j := ⟨b.toNat, by have := vFlag_bound hv; omega⟩
  have hj4 : j < 4 := by have := vFlag_bound hv; omega
  have HBW := Lib.hid (fhs_at (j := j) hj4)
  have hus := boundB_size (j : Int)
  have HSM : Hid (∀ d ∈ ds, Sm d) := Lib.hid (flag_small hv)
  have HLN : Hid (ds.length ≤ 100) := Lib.hid (by have := vFlag_len hv; omega)
  obtain ⟨u, hu⟩ : ∃ u, flagB ++ boundB (j : Int) = u := ⟨_, rfl⟩
  have huz : u.size ≤ 20 := by rw [← hu, ByteArray.size_append]; show 5 + _ ≤ 20; omega
  obtain ⟨t, ht⟩ : ∃ t, mFlagT ds j = t := ⟨_, rfl⟩
  have ht2 : (u ++ nlB) ++ linesB ds = t := by rw [← ht, ← hu]; unfold mFlagT; rw [hv]; rfl
  rw [hu] at HBW
  rw [ht]
  have HDL : Hid (∀ (A : Option Addr) (n c : Nat) (w : World), SD w w.heap.size A n c ds → P10 w → p10G < w.heap.size → Calls Tryd.prog 54 #[.string u, .slice A n c] w fun e w' => e = .returned (.string t) ∧ Below w.heap.size w w') := Lib.hid (fun A n c w hr h1 h2 => by rw [← ht2]; exact textOf_v u ds A n c w hr huz HSM.out HLN.out h1 h2)
  have hj0 : (0 : Int) ≤ (j : Int) := by omega
  have hj1 : (j : Int) < 4 := by omega
  clear hv hu ht ht2 HSM HLN
  go_enter Tryd.func22, Tryd.ntmps22
  go_wp2_with fail
  refine (implVF_v ds j _ _ _ _ HF.out.sd hn HV.out).mono ?_
  rintro e w1 ⟨rfl, hb⟩
  have HF1 := Lib.hid (HF.out.call hb)
  have c0 := HF1.out.c0
  have c1 := HF1.out.c1
  clear hb HF
  go_wp2_with fail
  refine wp_region_held_drew (S := fun w' => w'.cell? ⟨w.heap.size, 0, none⟩ = some (.slice A m c) ∧ w'.cell? ⟨w.heap.size, 1, none⟩ = some (.int .i64 (j : Int))) (by kernel_rfl) ⟨c0, c1⟩ (fun hHeld => ?_)
  generalize hwd : w1.drew = w3 at hHeld ⊢
  have HFw3 : Hid (FB w w3 w.heap.size A m c ds (j : Int)) := Lib.hid (by rw [← hwd]; exact HF1.out.drewN 1)
  clear hwd HF1 c0 c1
  refine wpAnyH_take (i := 1) (v := ?_) rfl (by kernel_rfl) (by kernel_rfl) (by kernel_rfl) (fun _ _ _ h => h) (Or.inl ⟨by kernel_rfl, ?_⟩) hHeld ?_
  rotate_left
  · intro wz hSw
    obtain ⟨s0, s1⟩ := hSw
    first
    | (go_simp; done)
    | (go_simp; with_reducible rfl)
    | (go_simp; omega)
  try simp only [Act.put, List.setIfInBounds_toArray, List.set_cons_zero, List.set_cons_succ]
  refine wpAnyH_take (i := 2) (v := ?_) rfl (by kernel_rfl) (by kernel_rfl) (by kernel_rfl) (fun _ _ _ h => h) (Or.inl ⟨by kernel_rfl, ?_⟩) hHeld ?_
  rotate_left
  · intro wz hSw
    obtain ⟨s0, s1⟩ := hSw
    first
    | (go_simp; done)
    | (go_simp; with_reducible rfl)
    | (go_simp; omega)
  try simp only [Act.put, List.setIfInBounds_toArray, List.set_cons_zero, List.set_cons_succ]
  refine wpAnyH_take (i := 5) (v := ?_) rfl (by kernel_rfl) (by kernel_rfl) (by kernel_rfl) (fun _ _ _ h => h) (Or.inl ⟨by kernel_rfl, ?_⟩) hHeld ?_
  rotate_left
  · intro wz hSw
    obtain ⟨s0, s1⟩ := hSw
    first
    | (go_simp; done)
    | (go_simp; with_reducible rfl)
    | (go_simp; omega)
  try simp only [Act.put, List.setIfInBounds_toArray, List.set_cons_zero, List.set_cons_succ]
  refine wpAnyH_take (i := 6) (v := ?_) rfl (by kernel_rfl) (by kernel_rfl) (by kernel_rfl) (fun _ _ _ h => h) (Or.inl ⟨by kernel_rfl, ?_⟩) hHeld ?_
  rotate_left
  · intro wz hSw
    obtain ⟨s0, s1⟩ := hSw
    first
    | (go_simp; done)
    | (go_simp; with_reducible rfl)
    | (go_simp; omega)
  try simp only [Act.put, List.setIfInBounds_toArray, List.set_cons_zero, List.set_cons_succ]
  refine wpAnyH_ready (rs := [0]) (by kernel_rfl) (by simp) ?_
  refine AllReadyH.cons rfl (fun K hK => ?_) AllReadyH.nil
  go_simp
  refine (flagHeads_v w3).mono ?_
  rintro e w4 ⟨Aw, cw, rfl, hss, hb⟩
  have HFw4 := Lib.hid (HFw3.out.call hb)
  have a0w4 := HFw4.out.c0
  have a1w4 := HFw4.out.c1
  obtain ⟨bb, oo, rfl, hbb, xxw4⟩ := hss.at_ (k := j) hj4
  rw [HBW.out] at xxw4
  clear hss hb
  go_simp
  refine hK.out _ _ ⟨a0w4, a1w4⟩ (fun hHeld => ?_)
  clear hK K
  try simp only [Act.put, List.setIfInBounds_toArray, List.set_cons_zero, List.set_cons_succ]
  refine wpAnyH_take (i := 3) (v := ?_) rfl (by kernel_rfl) (by kernel_rfl) (by kernel_rfl) (fun _ _ _ h => h) (Or.inl ⟨by kernel_rfl, ?_⟩) hHeld ?_
  rotate_left
  · intro wz hSw
    obtain ⟨s0, s1⟩ := hSw
    first
    | (go_simp; done)
    | (go_simp; with_reducible rfl)
    | (go_simp; omega)
  try simp only [Act.put, List.setIfInBounds_toArray, List.set_cons_zero, List.set_cons_succ]
  refine wpAnyH_ready (rs := [4]) (by kernel_rfl) (by simp) ?_
  refine AllReadyH.cons rfl (fun K hK => ?_) AllReadyH.nil
  go_simp
  refine hK.out _ _ ⟨a0w4, a1w4⟩ (fun hHeld => ?_)
  clear hK K
  try simp only [Act.put, List.setIfInBounds_toArray, List.set_cons_zero, List.set_cons_succ]
  refine wpAnyH_ready (rs := [7]) (by kernel_rfl) (by simp) ?_
  refine AllReadyH.cons rfl (fun K hK => ?_) AllReadyH.nil
  go_simp
  refine (HDL.out _ _ _ _ HFw4.out.sd (HT.out.below HFw4.out.bel hG) (Nat.lt_of_lt_of_le hG HFw4.out.bel.size)).mono ?_
  rintro e w5 ⟨rfl, hb⟩
  have HFw5 := Lib.hid (HFw4.out.call hb)
  have a0w5 := HFw5.out.c0
  have a1w5 := HFw5.out.c1
  clear hb
  go_simp
  refine hK.out _ _ ⟨a0w5, a1w5⟩ (fun hHeld => ?_)
  clear hK K
  try simp only [Act.put, List.setIfInBounds_toArray, List.set_cons_zero, List.set_cons_succ]
  refine wpAnyH_take (i := 8) (v := ?_) rfl (by kernel_rfl) (by kernel_rfl) (by kernel_rfl) (fun _ _ _ h => h) (Or.inl ⟨by kernel_rfl, ?_⟩) hHeld ?_
  rotate_left
  · intro wz hSw
    obtain ⟨s0, s1⟩ := hSw
    first
    | (go_simp; done)
    | (go_simp; with_reducible rfl)
    | (go_simp; omega)
  try simp only [Act.put, List.setIfInBounds_toArray, List.set_cons_zero, List.set_cons_succ]
  refine wpAnyH_done (by kernel_rfl) ?_ _
  try go_simp
  have HBZ := Lib.hid HFw5.out.bel
  go_wp2
  go_ret
  exact ⟨rfl, HBZ.out⟩
end Go.Proofs.YtlomhkhpnafooaaDoor
