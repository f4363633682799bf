import Derived.Test.YtpfdghbjagdhfaaDoorParS
namespace Go.Proofs.YtpfdghbjagdhfaaDoor
open Go.RowKit Go.Maps
set_option linter.unusedVariables false
set_option linter.unusedSimpArgs false
set_option maxRecDepth 100000

set_option maxHeartbeats 8000000 in
theorem specParse_v (ds : List D) (b : Int) (s : ByteArray) (A : Option Addr) (m c : Nat) (w : World) (hr : SD w w.heap.size A m c ds) (hs : s.size ≤ 1048576) {x y : Nat} {v : Bool} (hm : ArR (mPar ds b s) x y v) :
    Calls Tryd.prog 13 #[.agg #[.slice A m c, .int .i64 b], .string s] w fun e w' => e = .returned (.tuple #[.agg #[.int .i64 x, .int .i64 y], .bool v]) ∧ Below w.heap.size w w' := by
  have HF := Lib.hid ((FB.start hr b).alloc (.cells #[.int .i64 0, .int .i64 0] 27))
  have HC : Hid (C2 ((w.alloc (.cells #[.slice A m c, .int .i64 b] 32)).alloc (.cells #[.int .i64 0, .int .i64 0] 27)) (w.heap.size + 1) (.int .i64 0) (.int .i64 0)) := Lib.hid (c2New' _ _ _ _ _)
  have HMR := Lib.hid hm
  clear hr hm
  obtain ⟨w0, hw⟩ : ∃ W : World, W = ((w.alloc (.cells #[.slice A m c, .int .i64 b] 32)).alloc (.cells #[.int .i64 0, .int .i64 0] 27)) := ⟨_, rfl⟩
  have f0 : ((w.alloc (.cells #[.slice A m c, .int .i64 b] 32)).alloc (.cells #[.int .i64 0, .int .i64 0] 27)).cell? ⟨w.heap.size, 0, none⟩ = some (.slice A m c) := HF.out.c0
  have f1 : ((w.alloc (.cells #[.slice A m c, .int .i64 b] 32)).alloc (.cells #[.int .i64 0, .int .i64 0] 27)).cell? ⟨w.heap.size, 1, none⟩ = some (.int .i64 b) := HF.out.c1
  rw [← hw] at HF HC
  have HW := Lib.hid hw.symm
  clear hw
  cases hv : vFlag ds b
  · have HV := Lib.hid hv
    obtain ⟨rfl, rfl, rfl⟩ := HMR.out.no (by unfold mPar; rw [hv]; rfl)
    clear hv HMR
    go_enter Tryd.func13, Tryd.ntmps13
    go_wp2_with fail
    rw [HW.out]
    clear HW f0 f1
    refine (specVF_v ds b _ _ _ _ HF.out.sd HV.out).mono ?_
    rintro e w1 ⟨rfl, hb⟩
    have HB1 := Lib.hid (HF.out.after hb)
    obtain ⟨r0, r1, rf0, rf1⟩ := HC.out.below hb
    clear hb
    go_wp2
    exact bodyPost_ret (v := .tuple #[.agg #[.int .i64 0, .int .i64 0], .bool false]) (by simp [results, Tryd.results13, go_sem, r0, r1]) rfl ⟨rfl, (HB1.out.setCell (by show w.heap.size ≤ w.heap.size + 1; omega) _).setCell (by show w.heap.size ≤ w.heap.size + 1; omega) _⟩
  have HV := Lib.hid hv
  have HPA := Lib.hid (fun (A : Option Addr) (m c : Nat) (w : World) (hr : SD w w.heap.size A m c ds) => parseArm_v ds b s A m c w hr hs HV.out)
  unfold PaP at HPA
  generalize mPar ds b s = r at *
  clear hv
  go_enter Tryd.func13, Tryd.ntmps13
  go_wp2_with fail
  rw [HW.out]
  clear HW f0 f1
  refine (specVF_v ds b _ _ _ _ HF.out.sd HV.out).mono ?_
  rintro e w1 ⟨rfl, hb⟩
  have HF1 := Lib.hid (HF.out.call hb)
  have HC1 := Lib.hid (HC.out.below hb)
  have c0 := HF1.out.c0
  have c1 := HF1.out.c1
  clear hb HF HC
  go_wp2_with fail
  refine (HPA.out _ _ _ _ HF1.out.sd).mono ?_
  rintro e w2 ⟨p, q, v1, rfl, hy, hno, hb⟩
  have HY := Lib.hid hy
  have HN := Lib.hid hno
  have HB2 := Lib.hid ((HF1.out.after hb).alloc (HF1.out.after hb).size (.cells #[.int .i64 (p : Int), .int .i64 (q : Int)] 27))
  obtain ⟨r0, r1, rf0, rf1⟩ := (HC1.out.below hb).below ((Below.refl _ _).alloc (Nat.le_refl _) (.cells #[.int .i64 (p : Int), .int .i64 (q : Int)] 27))
  clear hb c0 c1 HF1 HC1 HPA hy hno
  cases v1
  · obtain ⟨rfl, rfl, rfl⟩ := HMR.out.no (HN.out (by first | rfl | trivial))
    go_wp2
    exact bodyPost_ret (v := .tuple #[.agg #[.int .i64 0, .int .i64 0], .bool false]) (by simp [results, Tryd.results13, go_sem, r0, r1]) rfl ⟨rfl, (HB2.out.setCell (by show w.heap.size ≤ w.heap.size + 1; omega) _).setCell (by show w.heap.size ≤ w.heap.size + 1; omega) _⟩
  · obtain ⟨rfl, rfl, rfl⟩ := HMR.out.yes p q (HY.out (by first | rfl | trivial))
    go_wp2
    exact bodyPost_ret (v := .tuple #[.agg #[.int .i64 x, .int .i64 y], .bool true]) (by simp [results, Tryd.results13, go_sem, r0, r1]) rfl ⟨rfl, (HB2.out.setCell (by show w.heap.size ≤ w.heap.size + 1; omega) _).setCell (by show w.heap.size ≤ w.heap.size + 1; omega) _⟩
end Go.Proofs.YtpfdghbjagdhfaaDoor
