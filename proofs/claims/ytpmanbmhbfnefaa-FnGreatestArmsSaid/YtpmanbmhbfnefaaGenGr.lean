import Derived.Test.YtpmanbmhbfnefaaGenV
import Derived.Test.YtpmanbmhbfnefaaGenG
import Derived.Test.YtpmanbmhbfnefaaGenAr
import Derived.Deep.DeepCutAuto
namespace Go.Proofs.Ytpmanbmhbfnefaa
open Go.RowKit
set_option linter.unusedVariables false
set_option linter.unusedSimpArgs false
set_option maxRecDepth 100000

/-- A drawn class and a list of numbers. -/
def DrawGr (w : World) (e : Ending) (w' : World) : Prop :=
  ∃ (A : Option Addr) (c : Nat) (ds : List D) (b : Int) (As : Option Addr) (cs : Nat) (ss : List Int), e = .returned (.tuple #[.agg #[.slice A ds.length c, .int .i64 b], .slice As ss.length cs]) ∧ ds.length ≤ 13 ∧ (∀ d ∈ ds, d.small) ∧ (-1 ≤ b ∧ b ≤ 4) ∧ ss.length ≤ 8 ∧ (∀ x ∈ ss, -1 ≤ x ∧ x ≤ 4096) ∧ SD w' w'.heap.size A ds.length c ds ∧ SI w' w'.heap.size As ss.length cs ss ∧ Below w.heap.size w w'
theorem own_lit (w : World) (e : TypeId) (size n : Nat) (cur : Array Value) (xs : List Value) (h : cur.toList = xs) (hs : xs.length = n * size) (hn : n ≤ maxLen) : (w.alloc (.cells cur e)).ownsRow w.heap.size e size (.slice (some ⟨w.heap.size, 0, none⟩) n n) n xs := by
  subst h
  exact ⟨hs, .inr ⟨w.heap.size, n, cur, rfl, Nat.le_refl _, heap_alloc_new w _, Nat.le_refl _, hn, by simpa using hs, by rw [← hs, List.take_length]⟩⟩
def abcG : List D := [⟨⟨#[97]⟩, 1⟩, ⟨⟨#[98]⟩, 2⟩, ⟨⟨#[99]⟩, 4⟩]
theorem abcG_small : ∀ d ∈ abcG, d.small := by
  intro d hd
  simp only [abcG, List.mem_cons, List.not_mem_nil, or_false] at hd
  rcases hd with rfl | rfl | rfl <;> exact ⟨by decide, by decide, by decide⟩
theorem num_snoc {ss : List Int} (h : ∀ x ∈ ss, -1 ≤ x ∧ x ≤ 4096) {y : Int} (hy : -1 ≤ y ∧ y ≤ 4096) : ∀ x ∈ ss ++ [y], -1 ≤ x ∧ x ≤ 4096 := by
  intro x hx
  rcases List.mem_append.1 hx with h1 | h1
  · exact h x h1
  · rw [List.mem_singleton.1 h1]; exact hy
set_option maxHeartbeats 16000000 in
theorem drawGreatestArms_any (A : Option Addr) (n c : Nat) (zs : List Int) (w : World) (h : SB w w.heap.size A n c zs) :
    Calls Try.prog 34 #[.slice A n c] w (DrawGr w) := by
  have HS := Lib.hid h
  clear h
  go_enter Try.func34, Try.ntmps34
  go_wp2_with fail
  refine (newReader_any A n c zs _ (HS.out.allocF _)).mono ?_
  rintro e w1 ⟨R, A1, cb, z1, rfl, hR, hr, hb⟩
  have hwR : w.heap.size ≠ R := by simp at hR; omega
  have HC1 : Hid (C2 w1 w.heap.size (.slice none 0 0) (.int .i64 0)) := Lib.hid ((c2New _ _ _ _).below hb)
  have HB : Hid (Below w.heap.size w w1) := Lib.hid (((Below.refl _ _).alloc (Nat.le_refl _) _).trans (hb.mono (by simp)))
  obtain ⟨B0, hB0⟩ : ∃ B, B = (w.alloc (.cells #[.slice none 0 0, .int .i64 0] 58)).heap.size := ⟨_, rfl⟩
  rw [← hB0] at hr
  clear hB0
  have HR1 := Lib.hid hr
  have hRl : w.heap.size + 1 ≤ R := by simpa using hR
  have hR1 := HR1.out.lt
  clear hr hb hR
  go_wp2_with fail
  refine (someFlag_any R _ A1 cb z1 0 _ HR1.out (by omega)).mono ?_
  rintro e w2 ⟨A', c', ds, b, p', rfl, hn, hsm, hbd, hown, hp', hg, hr⟩
  have HC2 := Lib.hid (HC1.out.grown hg (by simpa using hwR))
  have HG2 : Hid (w1.grownBy w2 (some R)) := Lib.hid hg
  have HO2 := Lib.hid hown
  have HSM := Lib.hid hsm
  have HOK : Hid (∀ d ∈ ds, d.ok) := Lib.hid fun d hd => small_ok (hsm d hd)
  have HBD := Lib.hid hbd
  have HR2 := Lib.hid hr
  have hz2 : w1.heap.size ≤ w2.heap.size := hg.size
  clear hg hr hown hsm hbd HC1 HR1
  obtain ⟨w3, hw⟩ : ∃ W : World, W = w2.alloc (.cells #[.slice A' ds.length c', .int .i64 b] 58) := ⟨_, rfl⟩
  have hb : Below w2.heap.size w2 w3 := by rw [hw]; exact (Below.refl _ _).alloc (Nat.le_refl _) _
  have hz3 : w2.heap.size + 1 ≤ w3.heap.size := by rw [hw]; simp
  have HD3 : Hid (C2 w3 w2.heap.size (.slice A' ds.length c') (.int .i64 b)) := Lib.hid (by rw [hw]; exact c2New _ _ _ _)
  have HC3 := Lib.hid (HC2.out.below hb)
  have HO3 := Lib.hid (own_below HO2.out hb)
  have HG3 : Hid (w1.grownBy w3 (some R)) := Lib.hid (HG2.out.trans (grown_of_below hb _))
  have HR3 := Lib.hid (HR2.out.below hb)
  have HW := Lib.hid hw.symm
  have hGR : w2.heap.size ≠ R := by omega
  have hGw : w2.heap.size ≠ w.heap.size := by omega
  have hGw' : w.heap.size ≠ w2.heap.size := by omega
  have hG1 : w1.heap.size ≤ w2.heap.size := hz2
  clear hb hw HC2 HO2 HG2 HR2
  go_upto_region 3 with fail
  rw [HW.out]
  clear HW
  generalize hG : w2.heap.size = G at *
  clear hG
  go_cut [25] (fun s wx => ∃ (v : Bool) (p2 : Nat), s = .bool v ∧ p2 ≤ p' + 1 ∧ G + 1 ≤ wx.heap.size ∧ Hid (C2 wx w.heap.size (.slice none 0 0) (.int .i64 0)) ∧ Hid (C2 wx G (.slice A' ds.length c') (.int .i64 b)) ∧ Hid (wx.ownsRow w1.heap.size 48 2 (.slice A' ds.length c') ds.length (flat ds)) ∧ Hid (w1.grownBy wx (some R)) ∧ Hid (Rdr wx R B0 A1 cb z1 p2))
  case first =>
    have HS3 := Lib.hid (sd_of_own HO3.out HOK.out)
    obtain ⟨d0, d1, _, _⟩ := id HD3.out
    cases hv : vFlag ds b
    · have HV := Lib.hid hv
      clear hv
      go_wp2_with fail
      refine (specVF_v ds b _ _ _ _ HS3.out HV.out).mono ?_
      rintro e w4 ⟨rfl, hb⟩
      go_wp2
      go_meet
      exact ⟨false, p', rfl, by omega, by have := hb.size; omega, Lib.hid (HC3.out.below hb), Lib.hid (HD3.out.below hb), Lib.hid (own_below HO3.out hb), Lib.hid (HG3.out.trans (grown_of_below hb _)), Lib.hid (HR3.out.below hb)⟩
    have HV := Lib.hid hv
    have HIN := Lib.hid (vFlag_in hv)
    obtain ⟨k, hk⟩ : ∃ k, mMask ds = k := ⟨_, rfl⟩
    have hk4 : k < 4096 := by rw [← hk]; exact mMask_lt12 HIN.out
    have HMM := Lib.hid hk
    obtain ⟨pc, hpc⟩ : ∃ x, popc k = x := ⟨_, rfl⟩
    have HPC := Lib.hid hpc
    clear hv hk hpc
    go_wp2_with fail
    refine (specVF_v ds b _ _ _ _ HS3.out HV.out).mono ?_
    rintro e w4 ⟨rfl, hb⟩
    have HC4 := Lib.hid (HC3.out.below hb)
    have HD4 := Lib.hid (HD3.out.below hb)
    have HO4 := Lib.hid (own_below HO3.out hb)
    have HG4 : Hid (w1.grownBy w4 (some R)) := Lib.hid (HG3.out.trans (grown_of_below hb _))
    have HR4 := Lib.hid (HR3.out.below hb)
    have HS4 : Hid (SD w4 w4.heap.size A' ds.length c' ds) := Lib.hid ((HS3.out.below hb).call hb.size)
    have hz4 : G + 1 ≤ w4.heap.size := by have := hb.size; omega
    clear hb d0 d1 HC3 HD3 HO3 HG3 HR3 HS3
    obtain ⟨d0, d1, _, _⟩ := id HD4.out
    go_wp2_with fail
    refine (mask_any ds _ _ _ _ HS4.out HIN.out HMM.out).mono ?_
    rintro e w5 ⟨rfl, rfl⟩
    by_cases h4 : pc ≤ 4
    · have h4i : ¬ (4 : Int) < (pc : Int) := by omega
      go_wp2_with (go_at_call 66; refine (bitCount_any k _ (by omega) HPC.out).mono ?_; rintro e w' ⟨rfl, rfl⟩)
      go_meet
      exact ⟨false, p', rfl, by omega, hz4, HC4, HD4, HO4, HG4, HR4⟩
    have h4i : (4 : Int) < (pc : Int) := by omega
    go_wp2_with (go_at_call 66; refine (bitCount_any k _ (by omega) HPC.out).mono ?_; rintro e w' ⟨rfl, rfl⟩)
    refine (pick_any 4 R _ A1 cb z1 p' _ HR4.out (by omega) (by omega) (by omega)).mono ?_
    rintro e w6 ⟨r, rfl, r0, r1, hg, hr⟩
    have HC6 := Lib.hid (HC4.out.grown hg (by simpa using hwR))
    have HD6 := Lib.hid (HD4.out.grown hg (by simpa using hGR))
    have HO6 := Lib.hid (HO4.out.kept hg (own_neR HO4.out (by omega)))
    have HG6 : Hid (w1.grownBy w6 (some R)) := Lib.hid (HG4.out.trans hg)
    have HR6 := Lib.hid hr
    have hz6 : G + 1 ≤ w6.heap.size := by have := hg.size; omega
    clear hg hr HC4 HD4 HO4 HG4 HR4 d0 d1
    go_wp2
    go_meet
    exact ⟨decide (0 < r), p' + 1, rfl, by omega, hz6, HC6, HD6, HO6, HG6, HR6⟩
  case rest =>
    obtain ⟨v, p2, hs, hp2, hz6, HC6, HD6, HO6, HG6, HR6⟩ := hcut
    subst hs
    clear HC3 HD3 HO3 HG3 HR3 hz3
    obtain ⟨w6, hwn⟩ : ∃ W : World, W = wc := ⟨_, rfl⟩
    subst hwn
    obtain ⟨d0, d1, f0, f1⟩ := id HD6.out
    cases v
    case false =>
      clear d0 d1 f0 f1
      obtain ⟨w8, hw⟩ : ∃ W : World, W = w6.alloc (.cells #[] 3) := ⟨_, rfl⟩
      obtain ⟨X, hX⟩ : ∃ X, w6.heap.size = X := ⟨_, rfl⟩
      have hb : Below w6.heap.size w6 w8 := by rw [hw]; exact (Below.refl _ _).alloc (Nat.le_refl _) _
      have hz8 : w8.heap.size = X + 1 := by rw [hw]; simp [hX]
      have HI8 : Hid (w8.ownsRow X 3 1 (.slice (some ⟨X, 0, none⟩) 0 0) 0 (flatI [])) := Lib.hid (by rw [hw, ← hX]; exact World.ownsRow_made w6 #[] 0 (Nat.le_refl _) (by unfold maxLen; omega) rfl)
      have HC8 := Lib.hid (HC6.out.below hb)
      have HD8 := Lib.hid (HD6.out.below hb)
      have HO8 := Lib.hid (own_below HO6.out hb)
      have HDL : Hid (∀ q, (Value.slice A' ds.length c').ownBlock = some q → q < X) := Lib.hid fun q hq => by have := (HO6.out.lt q hq).2; omega
      have HG8 : Hid (w1.grownBy w8 (some R)) := Lib.hid (HG6.out.trans (grown_of_below hb _))
      have HR8 := Lib.hid (HR6.out.below hb)
      have HW8 := Lib.hid hw.symm
      have hXG : G + 1 ≤ X := by omega
      have hXR : R < X := by omega
      have hX1 : w1.heap.size ≤ X := by omega
      have hXw : w.heap.size < X := by omega
      clear hb hw HC6 HD6 HO6 HG6 HR6
      go_wp2_with fail
      rw [HW8.out, ← hz8]
      refine (one_any 0 8 R B0 A1 cb z1 p2 w8.heap.size 6 6 _ (HR8.out.below ((Below.refl _ _).alloc (Nat.le_refl _) _)) (by omega) (by omega) (by omega) (by omega) (litI rfl rfl (by simp [allI]))).mono ?_
      rintro e w9 ⟨n0, rfl, na, nb, hg0, hr⟩
      have hg := (World.grownBy_alloc w8 (.cells #[.int .i64 4, .int .i64 3, .int .i64 6, .int .i64 2, .int .i64 0, .int .i64 8] 3) (some R)).trans hg0
      have HC9 := Lib.hid (HC8.out.grown hg (by simpa using hwR))
      have HD9 := Lib.hid (HD8.out.grown hg (by simpa using hGR))
      have HO9 := Lib.hid (HO8.out.kept hg (own_neR HO8.out (by omega)))
      have HI9 := Lib.hid (HI8.out.kept hg (own_neR HI8.out (by omega)))
      have HG9 : Hid (w1.grownBy w9 (some R)) := Lib.hid (HG8.out.trans hg)
      have HR9 := Lib.hid hr
      have hz9 : X + 1 ≤ w9.heap.size := by have := hg.size; omega
      clear hg hg0 hr HW8 HC8 HD8 HO8 HI8 HG8 HR8 hz8
      obtain ⟨n0, rfl⟩ := Int.eq_ofNat_of_zero_le na
      have hn8 : n0 ≤ 8 := by omega
      clear na nb
      have HXX := Lib.hid hX
      clear hX
      go_wp2_with fail
      go_loopw [6, 7] (fun v i wr => ∃ (ss : List Int) (n p9 : Nat), i = .int .i64 n ∧ ss.length + n ≤ 8 ∧ p9 ≤ p' + 3 + 5 * ss.length ∧ X + 1 ≤ wr.heap.size ∧ Hid (∀ x ∈ ss, -1 ≤ x ∧ x ≤ 4096) ∧ Hid (C2 wr w.heap.size (.slice none 0 0) (.int .i64 0)) ∧ Hid (C2 wr G (.slice A' ds.length c') (.int .i64 b)) ∧ Hid (wr.ownsRow X 3 1 v ss.length (flatI ss)) ∧ Hid (wr.ownsRow w1.heap.size 48 2 (.slice A' ds.length c') ds.length (flat ds)) ∧ Hid (w1.grownBy wr (some R)) ∧ Hid (Rdr wr R B0 A1 cb z1 p9)) (fun _ i _ => (intOf i).toNat)
      case atStart => exact ⟨[], n0, _, rfl, by simp; omega, by simp; omega, hz9, Lib.hid (by simp), HC9, HD9, HI9, HO9, HG9, HR9⟩
      case round =>
        clear HC9 HD9 HI9 HO9 HG9 HR9 hz9
        obtain ⟨ss, n, p9, rfl, hsn, hp9, hz3, HSS, HC3, HD3, HI3, HO3, HG3, HR3⟩ := hrel
        obtain ⟨Ai, ci, rfl⟩ := own_form HI3.out
        obtain ⟨w3, hwn⟩ : ∃ W : World, W = wr := ⟨_, rfl⟩
        subst hwn
        obtain ⟨k0, k1, _, _⟩ := id HD3.out
        by_cases hn0 : 0 < n
        · obtain ⟨m, rfl⟩ : ∃ m, n = m + 1 := ⟨n - 1, by omega⟩
          have hn1 : 0 < ((m + 1 : Nat) : Int) := by omega
          have hw1 : IntKind.i64.wrap (((m + 1 : Nat) : Int) - 1) = (m : Int) := by rw [IntKind.wrap_i64]; omega
          go_wp2_with fail
          refine (aValue_any R B0 A1 cb z1 p9 _ b A' ds.length c' w1.heap.size _ HR3.out (by omega) HO3.out HOK.out hR1).mono ?_
          rintro e w4 ⟨y, p4, rfl, hy, hp4, hg, hr⟩
          have HC4 := Lib.hid (HC3.out.grown hg (by simpa using hwR))
          have HD4 := Lib.hid (HD3.out.grown hg (by simpa using hGR))
          have HO4 := Lib.hid (HO3.out.kept hg (own_neR HO3.out (by omega)))
          have HI4 := Lib.hid (HI3.out.kept hg (own_neR HI3.out (by omega)))
          have HG4 : Hid (w1.grownBy w4 (some R)) := Lib.hid (HG3.out.trans hg)
          have HR4 := Lib.hid hr
          have hz4 : X + 1 ≤ w4.heap.size := by have := hg.size; omega
          clear hg hr k0 k1 HC3 HD3 HO3 HI3 HG3 HR3
          go_wp2_with (at_builtin; refine wpList_app_I rfl _ _ rfl _ _ _ _ rfl HI4.out _ _ _ rfl (by first | rfl | simp) (by omega) (by omega) ?_; intro v' w5 ho hb; have HI5 := Lib.hid ho; have HB5 := Lib.hid hb; clear ho hb)
          have HC5 := Lib.hid (HC4.out.low HB5.out (by omega))
          have HD5 := Lib.hid (HD4.out.low HB5.out (by omega))
          have HO5 := Lib.hid (ownLowAr HO4.out HB5.out HDL.out)
          have HG5 : Hid (w1.grownBy w5 (some R)) := Lib.hid (grown_below HG4.out (HB5.out.mono hX1))
          have HR5 := Lib.hid (HR4.out.belowL HB5.out hXR)
          have hz5 : X + 1 ≤ w5.heap.size := by have := HB5.out.size; omega
          have HI6 : Hid (w5.ownsRow X 3 1 v' (ss ++ [y]).length (flatI (ss ++ [y]))) := Lib.hid (by have := HI5.out; simpa [flatI] using this)
          have HS5 : Hid (∀ x ∈ ss ++ [y], -1 ≤ x ∧ x ≤ 4096) := Lib.hid (num_snoc HSS.out hy)
          have hl5 : (ss ++ [y]).length = ss.length + 1 := by simp
          go_roundw
          case rel => exact ⟨ss ++ [y], m, p4, by go_num, by omega, by omega, hz5, HS5, HC5, HD5, HI6, HO5, HG5, HR5⟩
          case measure => simp [intOf]
        · obtain rfl : n = 0 := by omega
          have hn1 : ¬ (0 : Int) < 0 := by omega
          obtain ⟨y0, y1, g0, g1⟩ := id HC3.out
          have HB3 : Hid (Below w.heap.size w w3) := Lib.hid (HB.out.grown HG3.out HB.out.size (fun k hk => by cases hk; omega))
          have hz3 : w.heap.size < w1.heap.size := by omega
          have HO4 := Lib.hid (own_setCell (own_setCell HO3.out (p := ⟨w.heap.size, 0, none⟩) (fun e => by have := (HO3.out.lt _ e).1; simp only at *; omega) (.slice A' ds.length c')) (p := ⟨w.heap.size, 1, none⟩) (fun e => by have := (HO3.out.lt _ e).1; simp only at *; omega) (.int .i64 b))
          have HI4 := Lib.hid (own_setCell (own_setCell HI3.out (p := ⟨w.heap.size, 0, none⟩) (fun e => by have := (HI3.out.lt _ e).1; simp only at *; omega) (.slice A' ds.length c')) (p := ⟨w.heap.size, 1, none⟩) (fun e => by have := (HI3.out.lt _ e).1; simp only at *; omega) (.int .i64 b))
          have HSD := Lib.hid (sd_of_own HO4.out HOK.out)
          have HSI := Lib.hid (si_of_own HI4.out (fun x hx => by have := HSS.out x hx; omega))
          clear HO4 HI4 hz3
          go_wp2
          refine bodyPost_ret (v := .tuple #[.agg #[.slice A' ds.length c', .int .i64 b], .slice Ai ss.length ci]) (by simp [results, Try.results34, go_sem, y0, y1]) rfl ⟨A', c', ds, b, Ai, ci, ss, rfl, hn, HSM.out, HBD.out, by omega, HSS.out, ?_, ?_, ?_⟩
          · exact HSD.out
          · exact HSI.out
          · exact (HB3.out.setCell (Nat.le_refl _) _).setCell (Nat.le_refl _) _
    case true =>
      clear d0 d1 f0 f1
      obtain ⟨w7, hw⟩ : ∃ W : World, W = w6.alloc (.cells #[.string ⟨#[97]⟩, .int .i64 1, .string ⟨#[98]⟩, .int .i64 2, .string ⟨#[99]⟩, .int .i64 4] 48) := ⟨_, rfl⟩
      obtain ⟨Y, hY⟩ : ∃ Y, w6.heap.size = Y := ⟨_, rfl⟩
      have hb : Below w6.heap.size w6 w7 := by rw [hw]; exact (Below.refl _ _).alloc (Nat.le_refl _) _
      have hG7 : G + 1 ≤ Y := by omega
      have hY1 : w1.heap.size ≤ Y := by omega
      have HL7 : Hid (w7.ownsRow Y 48 2 (.slice (some ⟨Y, 0, none⟩) 3 3) 3 (flat abcG)) := Lib.hid (by rw [hw, ← hY]; exact own_lit w6 _ 2 3 _ _ rfl rfl (by unfold maxLen; omega))
      have HC7 := Lib.hid (HC6.out.below hb)
      have HD7 := Lib.hid (HD6.out.below hb)
      have HG7 : Hid (w1.grownBy w7 (some R)) := Lib.hid (HG6.out.trans (grown_of_below hb _))
      have HR7 := Lib.hid (HR6.out.below hb)
      have hz7 : Y + 1 ≤ w7.heap.size := by rw [hw, ← hY]; simp
      have HW7 := Lib.hid hw.symm
      clear hb hw HC6 HD6 HO6 HG6 HR6
      obtain ⟨d0, d1, f0, f1⟩ := id HD7.out
      rw [← HW7.out] at d0 d1 f0 f1
      go_upto_region 5 with fail
      rw [HW7.out]
      clear d0 d1 f0 f1
      obtain ⟨wb, hw⟩ : ∃ W : World, W = (w7.setCell ⟨G, 0, none⟩ (.slice (some ⟨Y, 0, none⟩) 3 3)).setCell ⟨G, 1, none⟩ (.int .i64 0) := ⟨_, rfl⟩
      have HCb : Hid (C2 wb w.heap.size (.slice none 0 0) (.int .i64 0)) := Lib.hid (by rw [hw]; exact (HC7.out.setO (by simpa using hGw) _).setO (by simpa using hGw) _)
      have HDb : Hid (C2 wb G (.slice (some ⟨Y, 0, none⟩) 3 3) (.int .i64 0)) := Lib.hid (by rw [hw]; exact (HD7.out.set0 _).set1 _)
      have HOb : Hid (wb.ownsRow w1.heap.size 48 2 (.slice (some ⟨Y, 0, none⟩) 3 3) 3 (flat abcG)) := Lib.hid (by rw [hw]; exact own_base (own_setCell (own_setCell HL7.out (fun e => by have := (HL7.out.lt _ e).1; simp only at *; omega) _) (fun e => by have := (HL7.out.lt _ e).1; simp only at *; omega) _) hY1)
      have HGb : Hid (w1.grownBy wb (some R)) := Lib.hid (by rw [hw]; exact grown_set (grown_set HG7.out (by simpa using hG1) _) (by simpa using hG1) _)
      have HRb : Hid (Rdr wb R B0 A1 cb z1 p2) := Lib.hid (by rw [hw]; exact (HR7.out.set (by simp; omega) _).set (by simp; omega) _)
      have hzb : Y + 1 ≤ wb.heap.size := by rw [hw]; simpa using hz7
      have HWb := Lib.hid hw.symm
      have HOKb : Hid (∀ d ∈ abcG, d.ok) := Lib.hid fun d hd => small_ok (abcG_small d hd)
      rw [HWb.out]
      clear hw HC7 HD7 HL7 HG7 HR7 HWb HW7
      clear hY
      obtain ⟨w8, hw⟩ : ∃ W : World, W = wb.alloc (.cells #[] 3) := ⟨_, rfl⟩
      obtain ⟨X, hX⟩ : ∃ X, wb.heap.size = X := ⟨_, rfl⟩
      have hb : Below wb.heap.size wb w8 := by rw [hw]; exact (Below.refl _ _).alloc (Nat.le_refl _) _
      have hz8 : w8.heap.size = X + 1 := by rw [hw]; simp [hX]
      have HI8 : Hid (w8.ownsRow X 3 1 (.slice (some ⟨X, 0, none⟩) 0 0) 0 (flatI [])) := Lib.hid (by rw [hw, ← hX]; exact World.ownsRow_made wb #[] 0 (Nat.le_refl _) (by unfold maxLen; omega) rfl)
      have HC8 := Lib.hid (HCb.out.below hb)
      have HD8 := Lib.hid (HDb.out.below hb)
      have HO8 := Lib.hid (own_below HOb.out hb)
      have HDL : Hid (∀ q, (Value.slice (some ⟨Y, 0, none⟩) 3 3).ownBlock = some q → q < X) := Lib.hid fun q hq => by have := (HOb.out.lt q hq).2; omega
      have HG8 : Hid (w1.grownBy w8 (some R)) := Lib.hid (HGb.out.trans (grown_of_below hb _))
      have HR8 := Lib.hid (HRb.out.below hb)
      have HW8 := Lib.hid hw.symm
      have hXG : G + 1 ≤ X := by omega
      have hXR : R < X := by omega
      have hX1 : w1.heap.size ≤ X := by omega
      have hXw : w.heap.size < X := by omega
      clear hb hw HCb HDb HOb HGb HRb
      go_wp2_with fail
      rw [HW8.out, ← hz8]
      refine (one_any 0 8 R B0 A1 cb z1 p2 w8.heap.size 6 6 _ (HR8.out.below ((Below.refl _ _).alloc (Nat.le_refl _) _)) (by omega) (by omega) (by omega) (by omega) (litI rfl rfl (by simp [allI]))).mono ?_
      rintro e w9 ⟨n0, rfl, na, nb, hg0, hr⟩
      have hg := (World.grownBy_alloc w8 (.cells #[.int .i64 4, .int .i64 3, .int .i64 6, .int .i64 2, .int .i64 0, .int .i64 8] 3) (some R)).trans hg0
      have HC9 := Lib.hid (HC8.out.grown hg (by simpa using hwR))
      have HD9 := Lib.hid (HD8.out.grown hg (by simpa using hGR))
      have HO9 := Lib.hid (HO8.out.kept hg (own_neR HO8.out (by omega)))
      have HI9 := Lib.hid (HI8.out.kept hg (own_neR HI8.out (by omega)))
      have HG9 : Hid (w1.grownBy w9 (some R)) := Lib.hid (HG8.out.trans hg)
      have HR9 := Lib.hid hr
      have hz9 : X + 1 ≤ w9.heap.size := by have := hg.size; omega
      clear hg hg0 hr HW8 HC8 HD8 HO8 HI8 HG8 HR8 hz8
      obtain ⟨n0, rfl⟩ := Int.eq_ofNat_of_zero_le na
      have hn8 : n0 ≤ 8 := by omega
      clear na nb
      have HXX := Lib.hid hX
      clear hX
      go_wp2_with fail
      go_loopw [6, 7] (fun v i wr => ∃ (ss : List Int) (n p9 : Nat), i = .int .i64 n ∧ ss.length + n ≤ 8 ∧ p9 ≤ p' + 3 + 5 * ss.length ∧ X + 1 ≤ wr.heap.size ∧ Hid (∀ x ∈ ss, -1 ≤ x ∧ x ≤ 4096) ∧ Hid (C2 wr w.heap.size (.slice none 0 0) (.int .i64 0)) ∧ Hid (C2 wr G (.slice (some ⟨Y, 0, none⟩) 3 3) (.int .i64 0)) ∧ Hid (wr.ownsRow X 3 1 v ss.length (flatI ss)) ∧ Hid (wr.ownsRow w1.heap.size 48 2 (.slice (some ⟨Y, 0, none⟩) 3 3) 3 (flat abcG)) ∧ Hid (w1.grownBy wr (some R)) ∧ Hid (Rdr wr R B0 A1 cb z1 p9)) (fun _ i _ => (intOf i).toNat)
      case atStart => exact ⟨[], n0, _, rfl, by simp; omega, by simp; omega, hz9, Lib.hid (by simp), HC9, HD9, HI9, HO9, HG9, HR9⟩
      case round =>
        clear HC9 HD9 HI9 HO9 HG9 HR9 hz9
        obtain ⟨ss, n, p9, rfl, hsn, hp9, hz3, HSS, HC3, HD3, HI3, HO3, HG3, HR3⟩ := hrel
        obtain ⟨Ai, ci, rfl⟩ := own_form HI3.out
        obtain ⟨w3, hwn⟩ : ∃ W : World, W = wr := ⟨_, rfl⟩
        subst hwn
        obtain ⟨k0, k1, _, _⟩ := id HD3.out
        by_cases hn0 : 0 < n
        · obtain ⟨m, rfl⟩ : ∃ m, n = m + 1 := ⟨n - 1, by omega⟩
          have hn1 : 0 < ((m + 1 : Nat) : Int) := by omega
          have hw1 : IntKind.i64.wrap (((m + 1 : Nat) : Int) - 1) = (m : Int) := by rw [IntKind.wrap_i64]; omega
          go_wp2_with fail
          refine (aValue_any R B0 A1 cb z1 p9 _ 0 (some ⟨Y, 0, none⟩) 3 3 w1.heap.size _ HR3.out (by omega) HO3.out HOKb.out hR1).mono ?_
          rintro e w4 ⟨y, p4, rfl, hy, hp4, hg, hr⟩
          have HC4 := Lib.hid (HC3.out.grown hg (by simpa using hwR))
          have HD4 := Lib.hid (HD3.out.grown hg (by simpa using hGR))
          have HO4 := Lib.hid (HO3.out.kept hg (own_neR HO3.out (by omega)))
          have HI4 := Lib.hid (HI3.out.kept hg (own_neR HI3.out (by omega)))
          have HG4 : Hid (w1.grownBy w4 (some R)) := Lib.hid (HG3.out.trans hg)
          have HR4 := Lib.hid hr
          have hz4 : X + 1 ≤ w4.heap.size := by have := hg.size; omega
          clear hg hr k0 k1 HC3 HD3 HO3 HI3 HG3 HR3
          go_wp2_with (at_builtin; refine wpList_app_I rfl _ _ rfl _ _ _ _ rfl HI4.out _ _ _ rfl (by first | rfl | simp) (by omega) (by omega) ?_; intro v' w5 ho hb; have HI5 := Lib.hid ho; have HB5 := Lib.hid hb; clear ho hb)
          have HC5 := Lib.hid (HC4.out.low HB5.out (by omega))
          have HD5 := Lib.hid (HD4.out.low HB5.out (by omega))
          have HO5 := Lib.hid (ownLowAr HO4.out HB5.out HDL.out)
          have HG5 : Hid (w1.grownBy w5 (some R)) := Lib.hid (grown_below HG4.out (HB5.out.mono hX1))
          have HR5 := Lib.hid (HR4.out.belowL HB5.out hXR)
          have hz5 : X + 1 ≤ w5.heap.size := by have := HB5.out.size; omega
          have HI6 : Hid (w5.ownsRow X 3 1 v' (ss ++ [y]).length (flatI (ss ++ [y]))) := Lib.hid (by have := HI5.out; simpa [flatI] using this)
          have HS5 : Hid (∀ x ∈ ss ++ [y], -1 ≤ x ∧ x ≤ 4096) := Lib.hid (num_snoc HSS.out hy)
          have hl5 : (ss ++ [y]).length = ss.length + 1 := by simp
          go_roundw
          case rel => exact ⟨ss ++ [y], m, p4, by go_num, by omega, by omega, hz5, HS5, HC5, HD5, HI6, HO5, HG5, HR5⟩
          case measure => simp [intOf]
        · obtain rfl : n = 0 := by omega
          have hn1 : ¬ (0 : Int) < 0 := by omega
          obtain ⟨y0, y1, g0, g1⟩ := id HC3.out
          have HB3 : Hid (Below w.heap.size w w3) := Lib.hid (HB.out.grown HG3.out HB.out.size (fun k hk => by cases hk; omega))
          have hz3 : w.heap.size < w1.heap.size := by omega
          have HO4 := Lib.hid (own_setCell (own_setCell HO3.out (p := ⟨w.heap.size, 0, none⟩) (fun e => by have := (HO3.out.lt _ e).1; simp only at *; omega) (.slice (some ⟨Y, 0, none⟩) 3 3)) (p := ⟨w.heap.size, 1, none⟩) (fun e => by have := (HO3.out.lt _ e).1; simp only at *; omega) (.int .i64 0))
          have HI4 := Lib.hid (own_setCell (own_setCell HI3.out (p := ⟨w.heap.size, 0, none⟩) (fun e => by have := (HI3.out.lt _ e).1; simp only at *; omega) (.slice (some ⟨Y, 0, none⟩) 3 3)) (p := ⟨w.heap.size, 1, none⟩) (fun e => by have := (HI3.out.lt _ e).1; simp only at *; omega) (.int .i64 0))
          have HSD := Lib.hid (sd_of_own HO4.out HOKb.out)
          have HSI := Lib.hid (si_of_own HI4.out (fun x hx => by have := HSS.out x hx; omega))
          clear HO4 HI4 hz3
          go_wp2
          refine bodyPost_ret (v := .tuple #[.agg #[.slice (some ⟨Y, 0, none⟩) 3 3, .int .i64 0], .slice Ai ss.length ci]) (by simp [results, Try.results34, go_sem, y0, y1]) rfl ⟨(some ⟨Y, 0, none⟩), 3, abcG, 0, Ai, ci, ss, rfl, (by decide), abcG_small, (by omega), by omega, HSS.out, ?_, ?_, ?_⟩
          · exact HSD.out
          · exact HSI.out
          · exact (HB3.out.setCell (Nat.le_refl _) _).setCell (Nat.le_refl _) _

end Go.Proofs.Ytpmanbmhbfnefaa
