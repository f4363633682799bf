import Derived.Test.YtkholjcmaebaaaaBaseG
import Derived.Test.YtkholjcmaebaaaaGenX
import Derived.Test.YtkholjcmaebaaaaDiff
import Derived.Test.YtkholjcmaebaaaaBaseB
namespace Go.Proofs.Ytkholjcmaebaaaa
open Go.RowKit
set_option linter.unusedVariables false
set_option linter.unusedSimpArgs false
set_option maxRecDepth 100000

/-- A drawn list of changes, and the reader behind it. -/
def ChsP (R B : Nat) (A : Option Addr) (cb : Nat) (zs : List Int) (p : Nat) (w : World) (e : Ending) (w' : World) : Prop :=
  ∃ (A' : Option Addr) (c : Nat) (cs : List Ch) (p' : Nat), e = .returned (.slice A' cs.length c) ∧ cs.length ≤ 80 ∧ (∀ a ∈ cs, a.ok) ∧
    w'.ownsRow w.heap.size 137 4 (.slice A' cs.length c) cs.length (flatK cs) ∧ p' ≤ p + 150 ∧ w.grownBy w' (some R) ∧ Rdr w' R B A cb zs p'
theorem ok_snocK {cs : List Ch} (h : ∀ a ∈ cs, a.ok) {a : Ch} (ha : a.ok) : ∀ x ∈ cs ++ [a], x.ok := by
  intro x hx
  rcases List.mem_append.1 hx with h1 | h1
  · exact h x h1
  · rw [List.mem_singleton.1 h1]; exact ha
set_option maxHeartbeats 16000000 in
theorem someChanges_any (R B : Nat) (A : Option Addr) (cb : Nat) (zs : List Int) (p : Nat) (ds : List D) (Ae : Option Addr) (ne ce base : Nat) (w : World) (h : Rdr w R B A cb zs p) (hp : p + 200 ≤ 100000)
    (ho : w.ownsRow base 94 2 (.slice Ae ne ce) ne (flat ds)) (hok : ∀ d ∈ ds, d.small) (hRb : R < base) (hn : ne ≤ 25) :
    Calls Try.prog 103 #[.pointer (some ⟨R, 0, none⟩), .agg #[.slice Ae ne ce]] w (ChsP R B A cb zs p w) := by
  have hRw := h.lt
  have HOK := Lib.hid hok
  obtain ⟨F, hF⟩ : ∃ F, w.heap.size = F := ⟨_, rfl⟩
  obtain ⟨w1, hw⟩ : ∃ W : World, W = w.alloc (.cells #[.slice Ae ne ce] 53) := ⟨_, rfl⟩
  have hb : Below w.heap.size w w1 := by rw [hw]; exact (Below.refl _ _).alloc (Nat.le_refl _) _
  have hz1 : F + 1 ≤ w1.heap.size := by rw [hw]; simp [hF]
  have c1 : w1.cell? ⟨F, 0, none⟩ = some (.slice Ae ne ce) := by rw [hw, ← hF]; simp [go_sem]
  have HD1 := Lib.hid (own_below ho hb)
  have HR1 := Lib.hid (h.below hb)
  have HG1 : Hid (w.grownBy w1 (some R)) := Lib.hid (grown_of_below hb _)
  have HW := Lib.hid hw.symm
  clear hb hw h ho hok
  have hRF : R < F := by omega
  have hFR : F ≠ R := by omega
  go_enter Try.func103, Try.ntmps103
  go_wp2_with fail
  rw [HW.out]
  clear HW
  refine (goodEnum_any R B A cb zs p _ HR1.out (by omega)).mono ?_
  rintro e w2 ⟨Ab, cb2, bs, p2, rfl, hnb, hsmb, hownb, hp2, hg, hr⟩
  have c2 := hg.cell c1 (by simpa using hFR)
  have HD2 := Lib.hid (HD1.out.kept hg (own_neR HD1.out (by omega)))
  have HB2 := Lib.hid (own_base hownb hz1)
  have HG2 : Hid (w.grownBy w2 (some R)) := Lib.hid (HG1.out.trans hg)
  have HR2 := Lib.hid hr
  have hz2 : F + 1 ≤ w2.heap.size := by have := hg.size; omega
  have HSB := Lib.hid hsmb
  clear hg hr hownb hsmb c1 HD1 HG1 HR1 hz1
  obtain ⟨X, hX⟩ : ∃ X, w2.heap.size = X := ⟨_, rfl⟩
  obtain ⟨w3, hw⟩ : ∃ W : World, W = (w2.alloc (.cells #[.slice Ab bs.length cb2] 53)).alloc (.cells #[] 137) := ⟨_, rfl⟩
  have hb : Below w2.heap.size w2 w3 := by rw [hw]; exact ((Below.refl _ _).alloc (Nat.le_refl _) _).alloc (by simp) _
  have hz3 : w3.heap.size = X + 2 := by rw [hw]; simp [hX]
  have c3 := keep1 hb c2
  have lfc : ((w2.alloc (.cells #[.slice Ab bs.length cb2] 53)).alloc (.cells #[] 137)).cell? ⟨F, 0, none⟩ = some (.slice Ae ne ce) := by rw [← hw]; exact c3
  have b3 : w3.cell? ⟨X, 0, none⟩ = some (.slice Ab bs.length cb2) := by rw [hw, ← hX]; simp [go_sem]
  have HO3 : Hid (w3.ownsRow (F + 1) 137 4 (.slice (some ⟨X + 1, 0, none⟩) 0 0) 0 (flatK [])) := Lib.hid (by
    rw [hw, ← hX]
    have := World.ownsRow_made (e := 137) (size := 4) (base := F + 1) (w2.alloc (.cells #[.slice Ab bs.length cb2] 53)) #[] 0 (by simp; omega) (by unfold maxLen; omega) rfl
    simpa [flatK] using this)
  have HD3 : Hid (SD w3 w3.heap.size Ae ne ce ds) := Lib.hid (sd_of_own (own_below HD2.out hb) (fun d hd => small_ok (HOK.out d hd)))
  have HB3 : Hid (SD w3 w3.heap.size Ab bs.length cb2 bs) := Lib.hid (sd_of_own (own_below HB2.out hb) (fun d hd => small_ok (HSB.out d hd)))
  have HG3 : Hid (w.grownBy w3 (some R)) := Lib.hid (HG2.out.trans (grown_of_below hb _))
  have HR3 := Lib.hid (HR2.out.below hb)
  have HW := Lib.hid hw.symm
  clear hb hw c2 HD2 HB2 HG2 HR2
  go_wp2_with fail
  rw [HW.out]
  clear HW lfc
  obtain ⟨v, hv⟩ : ∃ v, vEnum ds = v := ⟨_, rfl⟩
  refine (specVE_v ds _ _ _ _ HD3.out hv).mono ?_
  rintro e w4 ⟨rfl, hb⟩
  have c4 := keep1 hb c3
  have b4 := keep1 hb b3
  have HO4 := Lib.hid (own_below HO3.out hb)
  have HD4 := Lib.hid ((HD3.out.below hb).call hb.size)
  have HB4 := Lib.hid ((HB3.out.below hb).call hb.size)
  have HG4 : Hid (w.grownBy w4 (some R)) := Lib.hid (grown_below HG3.out (hb.mono HG3.out.size))
  have HR4 := Lib.hid (HR3.out.below hb)
  have hz4 : X + 2 ≤ w4.heap.size := by have := hb.size; omega
  have hFX : F + 1 ≤ X := by omega
  clear hb c3 b3 HO3 HD3 HB3 HG3 HR3 hz3 hv hX
  cases v
  · skip
    clear c4 b4 HD4 HB4
    go_wp2_with fail
    refine (pick_any 4 R B A cb zs p2 _ HR4.out (by omega) (by omega) (by omega)).mono ?_
    rintro e w6 ⟨r, rfl, r0, r1, hg, hr⟩
    have HO6 := Lib.hid (HO4.out.kept hg (own_neR HO4.out (by omega)))
    have HG6 : Hid (w.grownBy w6 (some R)) := Lib.hid (HG4.out.trans hg)
    have HR6 := Lib.hid hr
    have hz6 : X + 2 ≤ w6.heap.size := by have := hg.size; omega
    clear hg hr HO4 HG4 HR4 r1
    by_cases hr0 : r = 0
    · subst hr0
      clear r0
      go_wp2_with fail
      refine (one_any 0 3 R B A cb zs (p2 + 1) w6.heap.size 4 4 _ (HR6.out.below ((Below.refl _ _).alloc (Nat.le_refl _) _)) (by omega) (by omega) (by omega) (by omega) (litI rfl rfl (by simp [allI]))).mono ?_
      rintro e w7 ⟨kd, rfl, ka, kb, hg0, hr⟩
      have hg := (World.grownBy_alloc w6 (.cells #[.int .i64 0, .int .i64 1, .int .i64 2, .int .i64 3] 3) (some R)).trans hg0
      have HO7 := Lib.hid (HO6.out.kept hg (own_neR HO6.out (by omega)))
      have HG7 : Hid (w.grownBy w7 (some R)) := Lib.hid (HG6.out.trans hg)
      have HR7 := Lib.hid hr
      have hz7 : X + 2 ≤ w7.heap.size := by have := hg.size; omega
      clear hg hg0 hr HO6 HG6 HR6
      go_wp2_with fail
      refine (aName_any R B A cb zs (p2 + 1 + 1) _ HR7.out (by omega)).mono ?_
      rintro e w8 ⟨nm, rfl, hnm, hg, hr⟩
      have HO8 := Lib.hid (HO7.out.kept hg (own_neR HO7.out (by omega)))
      have HG8 : Hid (w.grownBy w8 (some R)) := Lib.hid (HG7.out.trans hg)
      have HR8 := Lib.hid hr
      have hz8 : X + 2 ≤ w8.heap.size := by have := hg.size; omega
      clear hg hr HO7 HG7 HR7
      go_wp2_with fail
      refine (pick_any 3 R B A cb zs (p2 + 1 + 1 + 1) _ HR8.out (by omega) (by omega) (by omega)).mono ?_
      rintro e w9 ⟨ol, rfl, ola, olb, hg, hr⟩
      have olc := olb (by omega)
      have HO9 := Lib.hid (HO8.out.kept hg (own_neR HO8.out (by omega)))
      have HG9 : Hid (w.grownBy w9 (some R)) := Lib.hid (HG8.out.trans hg)
      have HR9 := Lib.hid hr
      have hz9 : X + 2 ≤ w9.heap.size := by have := hg.size; omega
      clear hg hr HO8 HG8 HR8 olb
      go_wp2_with fail
      refine (one_any 0 1001 R B A cb zs (p2 + 1 + 1 + 1 + 1) w9.heap.size 3 3 _ (HR9.out.below ((Below.refl _ _).alloc (Nat.le_refl _) _)) (by omega) (by omega) (by omega) (by omega) (litI rfl rfl (by simp [allI]))).mono ?_
      rintro e w10 ⟨nw, rfl, nwa, nwb, hg0, hr⟩
      have hg := (World.grownBy_alloc w9 (.cells #[.int .i64 0, .int .i64 1, .int .i64 1001] 3) (some R)).trans hg0
      have HO10 := Lib.hid (HO9.out.kept hg (own_neR HO9.out (by omega)))
      have HG10 : Hid (w.grownBy w10 (some R)) := Lib.hid (HG9.out.trans hg)
      have HR10 := Lib.hid hr
      have hz10 : X + 2 ≤ w10.heap.size := by have := hg.size; omega
      clear hg hg0 hr HO9 HG9 HR9
      go_wp2_with (at_builtin; refine wpList_app_K rfl _ _ rfl (F + 1) _ _ _ rfl HO10.out _ _ _ _ _ _ rfl (by first | rfl | simp) (by omega) (by omega) ?_; intro v' w11 ho9 hb9; obtain ⟨A9, c9, rfl⟩ := own_form ho9; have HO9 := Lib.hid ho9; have HB9 := Lib.hid hb9; clear ho9 hb9)
      go_ret
      have hl9 : (([] : List Ch) ++ [(⟨kd, nm, ol, nw⟩ : Ch)]).length = 0 + 1 := by simp
      refine ⟨A9, c9, ([] : List Ch) ++ [⟨kd, nm, ol, nw⟩], p2 + 1 + 1 + 1 + 1 + 1, by rw [hl9]; rfl, by omega, ok_snocK (by intro a ha; cases ha) ⟨by show nm.size ≤ maxLen; unfold maxLen; omega, by show I64 kd; unfold I64; omega, by show I64 ol; unfold I64; omega, by show I64 nw; unfold I64; omega⟩, ?_, by omega, grown_below HG10.out (HB9.out.mono (by omega)), HR10.out.belowL HB9.out (by omega)⟩
      rw [hl9, flatK_app]
      exact own_base HO9.out (by omega)
    · have hr2 : (r == 0) = false := by rw [beq_eq_false_iff_ne]; exact hr0
      clear hr0
      go_wp2
      go_ret
      exact ⟨some ⟨X + 1, 0, none⟩, 0, ([] : List Ch), p2 + 1, rfl, by simp, (by intro a ha; cases ha), own_base HO6.out (by omega), by omega, HG6.out, HR6.out⟩
  · go_wp2_with fail
    refine (differ_any ds bs _ _ _ _ _ _ _ HD4.out HB4.out (by omega) (by omega)).mono ?_
    rintro e w5 ⟨A5, c5, rfl, ho, hb⟩
    obtain ⟨ks, hks⟩ : ∃ ks, mDiff ds bs = ks := ⟨_, rfl⟩
    have hl5 : ks.length ≤ 70 := by rw [← hks]; have := mDiff_len ds bs; have := HD4.out.len; omega
    have OK5 : Hid (∀ a ∈ ks, a.ok) := Lib.hid (by rw [← hks]; exact mDiff_ok HD4.out.ok HB4.out.ok)
    rw [hks] at ho
    have HO5 : Hid (w5.ownsRow (F + 1) 137 4 (.slice A5 ks.length c5) ks.length (flatK ks)) := Lib.hid (own_base ho (by omega))
    have HG5 : Hid (w.grownBy w5 (some R)) := Lib.hid (grown_below HG4.out (hb.mono HG4.out.size))
    have HR5 := Lib.hid (HR4.out.below hb)
    have hz5 : X + 2 ≤ w5.heap.size := by have := hb.size; omega
    rw [hks]
    clear hb ho c4 b4 HO4 HD4 HB4 HG4 HR4 hks hz4
    go_wp2_with fail
    refine (pick_any 4 R B A cb zs p2 _ HR5.out (by omega) (by omega) (by omega)).mono ?_
    rintro e w6 ⟨r, rfl, r0, r1, hg, hr⟩
    have HO6 := Lib.hid (HO5.out.kept hg (own_neR HO5.out (by omega)))
    have HG6 : Hid (w.grownBy w6 (some R)) := Lib.hid (HG5.out.trans hg)
    have HR6 := Lib.hid hr
    have hz6 : X + 2 ≤ w6.heap.size := by have := hg.size; omega
    clear hg hr HO5 HG5 HR5 r1
    by_cases hr0 : r = 0
    · subst hr0
      clear r0
      go_wp2_with fail
      refine (one_any 0 3 R B A cb zs (p2 + 1) w6.heap.size 4 4 _ (HR6.out.below ((Below.refl _ _).alloc (Nat.le_refl _) _)) (by omega) (by omega) (by omega) (by omega) (litI rfl rfl (by simp [allI]))).mono ?_
      rintro e w7 ⟨kd, rfl, ka, kb, hg0, hr⟩
      have hg := (World.grownBy_alloc w6 (.cells #[.int .i64 0, .int .i64 1, .int .i64 2, .int .i64 3] 3) (some R)).trans hg0
      have HO7 := Lib.hid (HO6.out.kept hg (own_neR HO6.out (by omega)))
      have HG7 : Hid (w.grownBy w7 (some R)) := Lib.hid (HG6.out.trans hg)
      have HR7 := Lib.hid hr
      have hz7 : X + 2 ≤ w7.heap.size := by have := hg.size; omega
      clear hg hg0 hr HO6 HG6 HR6
      go_wp2_with fail
      refine (aName_any R B A cb zs (p2 + 1 + 1) _ HR7.out (by omega)).mono ?_
      rintro e w8 ⟨nm, rfl, hnm, hg, hr⟩
      have HO8 := Lib.hid (HO7.out.kept hg (own_neR HO7.out (by omega)))
      have HG8 : Hid (w.grownBy w8 (some R)) := Lib.hid (HG7.out.trans hg)
      have HR8 := Lib.hid hr
      have hz8 : X + 2 ≤ w8.heap.size := by have := hg.size; omega
      clear hg hr HO7 HG7 HR7
      go_wp2_with fail
      refine (pick_any 3 R B A cb zs (p2 + 1 + 1 + 1) _ HR8.out (by omega) (by omega) (by omega)).mono ?_
      rintro e w9 ⟨ol, rfl, ola, olb, hg, hr⟩
      have olc := olb (by omega)
      have HO9 := Lib.hid (HO8.out.kept hg (own_neR HO8.out (by omega)))
      have HG9 : Hid (w.grownBy w9 (some R)) := Lib.hid (HG8.out.trans hg)
      have HR9 := Lib.hid hr
      have hz9 : X + 2 ≤ w9.heap.size := by have := hg.size; omega
      clear hg hr HO8 HG8 HR8 olb
      go_wp2_with fail
      refine (one_any 0 1001 R B A cb zs (p2 + 1 + 1 + 1 + 1) w9.heap.size 3 3 _ (HR9.out.below ((Below.refl _ _).alloc (Nat.le_refl _) _)) (by omega) (by omega) (by omega) (by omega) (litI rfl rfl (by simp [allI]))).mono ?_
      rintro e w10 ⟨nw, rfl, nwa, nwb, hg0, hr⟩
      have hg := (World.grownBy_alloc w9 (.cells #[.int .i64 0, .int .i64 1, .int .i64 1001] 3) (some R)).trans hg0
      have HO10 := Lib.hid (HO9.out.kept hg (own_neR HO9.out (by omega)))
      have HG10 : Hid (w.grownBy w10 (some R)) := Lib.hid (HG9.out.trans hg)
      have HR10 := Lib.hid hr
      have hz10 : X + 2 ≤ w10.heap.size := by have := hg.size; omega
      clear hg hg0 hr HO9 HG9 HR9
      go_wp2_with (at_builtin; refine wpList_app_K rfl _ _ rfl (F + 1) _ _ _ rfl HO10.out _ _ _ _ _ _ rfl (by first | rfl | simp) (by omega) (by omega) ?_; intro v' w11 ho9 hb9; obtain ⟨A9, c9, rfl⟩ := own_form ho9; have HO9 := Lib.hid ho9; have HB9 := Lib.hid hb9; clear ho9 hb9)
      go_ret
      have hl9 : (ks ++ [(⟨kd, nm, ol, nw⟩ : Ch)]).length = ks.length + 1 := by simp
      refine ⟨A9, c9, ks ++ [⟨kd, nm, ol, nw⟩], p2 + 1 + 1 + 1 + 1 + 1, by rw [hl9]; rfl, by omega, ok_snocK OK5.out ⟨by show nm.size ≤ maxLen; unfold maxLen; omega, by show I64 kd; unfold I64; omega, by show I64 ol; unfold I64; omega, by show I64 nw; unfold I64; omega⟩, ?_, by omega, grown_below HG10.out (HB9.out.mono (by omega)), HR10.out.belowL HB9.out (by omega)⟩
      rw [hl9, flatK_app]
      exact own_base HO9.out (by omega)
    · have hr2 : (r == 0) = false := by rw [beq_eq_false_iff_ne]; exact hr0
      clear hr0
      go_wp2
      go_ret
      exact ⟨A5, c5, ks, p2 + 1, rfl, by omega, OK5.out, own_base HO6.out (by omega), by omega, HG6.out, HR6.out⟩
/-- A drawn enumeration and a list of changes. -/
def DrawECs (w : World) (e : Ending) (w' : World) : Prop :=
  ∃ (A : Option Addr) (c : Nat) (ds : List D) (As : Option Addr) (ck : Nat) (cs : List Ch), e = .returned (.tuple #[.agg #[.slice A ds.length c], .slice As cs.length ck]) ∧ ds.length ≤ 25 ∧ (∀ d ∈ ds, d.small) ∧ cs.length ≤ 80 ∧ (∀ a ∈ cs, a.ok) ∧
    SD w' w'.heap.size A ds.length c ds ∧ SK w' w'.heap.size As cs.length ck cs ∧ Below w.heap.size w w'
set_option maxHeartbeats 4000000 in
theorem drawApplyChanges_s (A : Option Addr) (n c : Nat) (zs : List Int) (w : World) (h : SB w w.heap.size A n c zs) :
    Calls Try.prog 38 #[.slice A n c] w (DrawECs w) := by
  have HS := Lib.hid h
  clear h
  go_enter Try.func38, Try.ntmps38
  go_wp2_with fail
  refine (newReader_any A n c zs _ (HS.out.alloc0 _)).mono ?_
  rintro e w1 ⟨R, A1, cb, z1, rfl, hR, hr, hb⟩
  have hwR : w.heap.size ≠ R := by simp at hR; omega
  have X1 : Hid (Cl w1 w.heap.size (.slice none 0 0)) := Lib.hid (clNew hb)
  have HB : Hid (Below w.heap.size w w1) := Lib.hid (((Below.refl _ _).alloc (Nat.le_refl _) _).trans (hb.mono (by simp)))
  have HR1 := Lib.hid hr
  have hRl : w.heap.size + 1 ≤ R := by simpa using hR
  have hR1 := HR1.out.lt
  clear hr hb hR
  go_wp2_with fail
  refine (someEnum_any R _ A1 cb z1 0 _ HR1.out (by omega)).mono ?_
  rintro e w2 ⟨A', c', ds, p2, rfl, hn, hsm, hown, hp2, hg, hr⟩
  have X2 := Lib.hid (X1.out.grown hg (by simpa using hwR))
  have HG2 : Hid (w1.grownBy w2 (some R)) := Lib.hid hg
  have hz2 : w1.heap.size ≤ w2.heap.size := hg.size
  have HO2 := Lib.hid hown
  have HSM := Lib.hid hsm
  have HR2 := Lib.hid hr
  clear hg hown hsm X1 HR1 hr
  obtain ⟨w3, hw⟩ : ∃ W : World, W = w2.alloc (.cells #[.slice A' ds.length c'] 53) := ⟨_, rfl⟩
  have hb : Below w2.heap.size w2 w3 := by rw [hw]; exact (Below.refl _ _).alloc (Nat.le_refl _) _
  have d0 : w3.cell? ⟨w2.heap.size, 0, none⟩ = some (.slice A' ds.length c') := by rw [hw]; simp [go_sem]
  have hz3 : w2.heap.size + 1 ≤ w3.heap.size := by rw [hw]; simp
  have X3 := Lib.hid (X2.out.below hb)
  have HO3 := Lib.hid (own_below HO2.out hb)
  have HG3 : Hid (w1.grownBy w3 (some R)) := Lib.hid (HG2.out.trans (grown_of_below hb _))
  have HR3 := Lib.hid (HR2.out.below hb)
  have HW := Lib.hid hw.symm
  have hGR : w2.heap.size ≠ R := by omega
  have n1 : w2.heap.size ≠ w.heap.size := by omega
  have n2 : w.heap.size ≠ w2.heap.size := by omega
  clear hb hw X2 HO2 HG2 HR2
  go_wp2_with fail
  rw [HW.out]
  clear HW
  generalize hG : w2.heap.size = G at *
  clear hG
  go_region_held3 (fun w' => w'.cell? ⟨G, 0, none⟩ = some (.slice A' ds.length c')) (first | go_keep | exact d0 | exact x3)
    (first | (go_at_call 103; refine (someChanges_any R _ A1 cb z1 p2 ds A' ds.length c' w1.heap.size _ (HR3.out.drewN 1) (by omega) (own_below HO3.out (below_drewN (Below.refl _ _) 1)) HSM.out (by omega) (by omega)).mono ?_; rintro e w4 ⟨As, ck, cs, p4, rfl, hcs, hss, hos, hp4, hg, hr⟩; replace hg : w3.grownBy w4 (some R) := ⟨hg.os, hg.tape, hg.output, hg.size, hg.block⟩; have X4 := Lib.hid (X3.out.grown hg (by simpa using hwR)); have x3 := hg.cell d0 (by simpa using hGR); have x0 := X4.out.1; have y0 := X4.out.2))
  have HO4 := Lib.hid (HO3.out.kept hg (own_neR HO3.out (by omega)))
  have HG4 : Hid (w1.grownBy w4 (some R)) := Lib.hid (HG3.out.trans hg)
  have HOS := Lib.hid (own_base hos (show w1.heap.size ≤ _ by simp; omega))
  clear hg hr hos
  go_wp2
  refine bodyPost_ret (v := .tuple #[.agg #[.slice A' ds.length c'], .slice As cs.length ck]) (by simp [results, Try.results38, go_sem, x0]) rfl ⟨A', c', ds, As, ck, cs, rfl, hn, HSM.out, hcs, hss, ?_, ?_, ?_⟩
  · exact sd_of_own (own_setCell HO4.out (fun e => by have := (HO4.out.lt _ e).1; simp only at *; omega) _) (fun d hd => small_ok (HSM.out d hd))
  · exact sk_of_own (own_setCell HOS.out (fun e => by have := (HOS.out.lt _ e).1; simp only at *; omega) _) hss
  · exact (HB.out.grown HG4.out HB.out.size (fun k hk => by cases hk; omega)).setCell (Nat.le_refl _) _
/-- A drawn list of changes. -/
def DrawCs (w : World) (e : Ending) (w' : World) : Prop :=
  ∃ (As : Option Addr) (ck : Nat) (cs : List Ch), e = .returned (.slice As cs.length ck) ∧ cs.length ≤ 80 ∧ (∀ a ∈ cs, a.ok) ∧ SK w' w'.heap.size As cs.length ck cs ∧ Below w.heap.size w w'
set_option maxHeartbeats 4000000 in
theorem drawTurnChanges_s (A : Option Addr) (n c : Nat) (zs : List Int) (w : World) (h : SB w w.heap.size A n c zs) :
    Calls Try.prog 45 #[.slice A n c] w (DrawCs w) := by
  have HS := Lib.hid h
  clear h
  go_enter Try.func45, Try.ntmps45
  go_wp2_with fail
  refine (newReader_any A n c zs _ HS.out).mono ?_
  rintro e w1 ⟨R, A1, cb, z1, rfl, hR, hr, hb⟩
  have HB : Hid (Below w.heap.size w w1) := Lib.hid hb
  have HR1 := Lib.hid hr
  have hRl : w.heap.size ≤ R := by simpa using hR
  have hR1 := HR1.out.lt
  clear hr hb hR
  go_wp2_with fail
  refine (goodEnum_any R _ A1 cb z1 0 _ HR1.out (by omega)).mono ?_
  rintro e w2 ⟨A', c', ds, p2, rfl, hn, hsm, hown, hp2, hg, hr⟩
  have HG2 : Hid (w1.grownBy w2 (some R)) := Lib.hid hg
  have hz2 : w1.heap.size ≤ w2.heap.size := hg.size
  have HO2 := Lib.hid hown
  have HSM := Lib.hid hsm
  have HR2 := Lib.hid hr
  clear hg hown hsm HR1 hr
  go_wp2_with fail
  refine (someChanges_any R _ A1 cb z1 p2 ds A' ds.length c' w1.heap.size _ HR2.out (by omega) HO2.out HSM.out (by omega) (by omega)).mono ?_
  rintro e w4 ⟨As, ck, cs, p4, rfl, hcs, hss, hos, hp4, hg, hr⟩
  have HG4 : Hid (w1.grownBy w4 (some R)) := Lib.hid (HG2.out.trans hg)
  have HOS := Lib.hid hos
  clear hg hr hos
  go_wp2
  go_ret
  exact ⟨As, ck, cs, rfl, hcs, hss, sk_of_own HOS.out hss, HB.out.grown HG4.out HB.out.size (fun k hk => by cases hk; omega)⟩
end Go.Proofs.Ytkholjcmaebaaaa
