import Derived.Test.YtpmanbmhbfnefaaGrU
import Derived.Test.YtpmanbmhbfnefaaGrT
import Derived.Test.YtpmanbmhbfnefaaArmW
import Derived.Test.YtpmanbmhbfnefaaAlgJ
namespace Go.Proofs.Ytpmanbmhbfnefaa
open Go.RowKit Go.Maps
set_option linter.unusedVariables false
set_option linter.unusedSimpArgs false
set_option maxRecDepth 100000

/-! ### the program's greatest arms -/
def gtN (p q r s : Nat) : Bool := !(decide (p = r) && decide (q = s)) && coverN p q r s
set_option maxHeartbeats 2000000 in
theorem isGreater_any (p q r s B : Nat) (w : World) (hp : p < 4096) (hq : q < 4096) (hr : r < 4096) (hs : s < 4096) (h0 : w.cell? ⟨B, 0, none⟩ = some (.int .i64 r)) (h1 : w.cell? ⟨B, 1, none⟩ = some (.int .i64 s)) {v : Bool} (hv : gtN p q r s = v) :
    Calls Try.prog 76 #[.agg #[.int .i64 p, .int .i64 q], .pointer (some ⟨B, 0, none⟩)] w fun e w' => e = .returned (.bool v) ∧ Below w.heap.size w w' := by
  have hb : Below w.heap.size w (w.alloc (.cells #[.int .i64 p, .int .i64 q] 72)) := (Below.refl _ _).alloc (Nat.le_refl _) _
  have c0 := keep1 hb h0
  have c1 := keep1 hb h1
  have HB := Lib.hid hb
  clear hb h0 h1
  by_cases he : p = r
  · subst he
    by_cases he : q = s
    · subst he
      have HV : Hid (false = v) := Lib.hid (by rw [← hv]; unfold gtN; simp)
      clear hv
      go_enter Try.func76, Try.ntmps76
      go_wp2
      go_ret
      exact ⟨ret_bool HV.out, HB.out⟩
    have HV : Hid (coverN p q p s = v) := Lib.hid (by rw [← hv]; unfold gtN; rw [decide_eq_false he, Bool.and_false]; rfl)
    have hne : ¬ (q : Int) = (s : Int) := by omega
    have hne2 : ((q : Int) == (s : Int)) = false := by rw [beq_eq_false_iff_ne]; omega
    clear hv
    go_enter Try.func76, Try.ntmps76
    go_wp2_with fail
    go_at_call 77
    refine (armCovers_v _ _ _ _ _ hp hq hr hs HV.out).mono ?_
    rintro e w1 ⟨rfl, hb⟩
    have HB1 := Lib.hid (HB.out.trans (hb.mono HB.out.size))
    clear hb
    go_wp2
    go_ret
    exact ⟨rfl, HB1.out⟩
  · have HV : Hid (coverN p q r s = v) := Lib.hid (by rw [← hv]; unfold gtN; rw [decide_eq_false he, Bool.false_and]; rfl)
    have hne : ¬ (p : Int) = (r : Int) := by omega
    have hne2 : ((p : Int) == (r : Int)) = false := by rw [beq_eq_false_iff_ne]; omega
    clear hv
    go_enter Try.func76, Try.ntmps76
    go_wp2_with fail
    go_at_call 77
    refine (armCovers_v _ _ _ _ _ hp hq hr hs HV.out).mono ?_
    rintro e w1 ⟨rfl, hb⟩
    have HB1 := Lib.hid (HB.out.trans (hb.mono HB.out.size))
    clear hb
    go_wp2
    go_ret
    exact ⟨rfl, HB1.out⟩

def gtA (a b : Ar) : Bool := !eqA b a && covA b a
theorem covV_is (arms : List Ar) (a : Ar) : covV arms a = arms.any (gtA a) := rfl
theorem gtA_is {a b : Ar} {p q r s : Nat} (h1 : b.all = p) (h2 : b.non = q) (h3 : a.all = r) (h4 : a.non = s) : gtA a b = gtN p q r s := by
  unfold gtA gtN eqA covA
  rw [h1, h2, h3, h4]
  simp only [Int.toNat_natCast, Int.natCast_inj]

set_option maxHeartbeats 2000000 in
theorem idxGr_v (rs : List Ar) (a : Ar) (A : Option Addr) (n c : Nat) (w : World) (hr : SA w w.heap.size A n c rs) (hin : ∀ a ∈ rs, ArN a) (ha : ArN a) (B : Nat) (h0 : w.cell? ⟨B, 0, none⟩ = some (.int .i64 a.all)) (h1 : w.cell? ⟨B, 1, none⟩ = some (.int .i64 a.non)) {v : Int} (hv : fidx (gtA a) rs = v) :
    Calls Try.prog 103 #[.slice A n c, .func (.func 76) #[] #[.pointer (some ⟨B, 0, none⟩)]] w fun e w' => e = .returned (.int .i64 v) ∧ Below w.heap.size w w' := by
  subst hv
  obtain rfl := hr.len
  have hl := hr.max
  have hl2 := hr.cap
  unfold maxLen at hl
  obtain ⟨r, s, e1, e2, hr4, hs4⟩ := ha
  have HE1 := Lib.hid e1
  have HE2 := Lib.hid e2
  rw [e1] at h0
  rw [e2] at h1
  have HC0 := Lib.hid h0
  have HC1 := Lib.hid h1
  have HR := Lib.hid hr
  have HIN := Lib.hid hin
  clear hr hin e1 e2 h0 h1
  go_enter Try.func103, Try.ntmps103
  go_wp2
  go_loopw [8] (fun i wr => ∃ k : Nat, k ≤ rs.length ∧ i = .int .i64 k ∧ Hid (noTo (gtA a) rs k) ∧ Hid (Below w.heap.size w wr)) (fun i _ => rs.length - (intOf i).toNat)
  case atStart => exact ⟨0, Nat.zero_le _, rfl, Lib.hid (noTo_zero _ _), Lib.hid (Below.refl _ _)⟩
  case round =>
    obtain ⟨k, hk, rfl, hok, hbel⟩ := hrel
    by_cases hlt : k < rs.length
    · obtain ⟨b, o, rfl, hb, c1, c2⟩ := (HR.out.below hbel.out).at_ hlt
      obtain ⟨x, y, h1, h2, hx4, hy4⟩ := HIN.out _ (List.getElem_mem hlt)
      have hi1 : (k : Int) < (rs.length : Int) := by omega
      have HP0 := Lib.hid (gtA_is (a := a) h1 h2 HE1.out HE2.out)
      rw [h1] at c1
      rw [h2] at c2
      clear h1 h2
      have HD0 := Lib.hid (keep1 hbel.out HC0.out)
      have HD1 := Lib.hid (keep1 hbel.out HC1.out)
      cases hp : gtN x y r s
      all_goals
        have HP := Lib.hid hp
        clear hp
        go_wp2_with (go_at_call 76; refine (isGreater_any x y r s B _ hx4 hy4 hr4 hs4 HD0.out HD1.out HP.out).mono ?_; rintro e w1 ⟨rfl, hb1⟩; have HB1 := Lib.hid hb1; clear hb1)
      · go_roundw
        case rel => exact ⟨k + 1, by omega, by go_num, Lib.hid (noTo_succ hok.out hlt (by rw [HP0.out]; exact HP.out)), Lib.hid (hbel.out.trans (HB1.out.mono hbel.out.size))⟩
        case measure => simp [intOf]; omega
      · go_ret
        exact ⟨ret_int (fidx_some hok.out hlt (by rw [HP0.out]; exact HP.out)).symm, hbel.out.trans (HB1.out.mono hbel.out.size)⟩
    · obtain rfl : k = rs.length := by omega
      go_wp2
      go_ret
      exact ⟨ret_int (fidx_none hok.out).symm, hbel.out⟩
set_option maxHeartbeats 1000000 in
theorem anyGr_v (rs : List Ar) (a : Ar) (A : Option Addr) (n c : Nat) (w : World) (hr : SA w w.heap.size A n c rs) (hin : ∀ a ∈ rs, ArN a) (ha : ArN a) (B : Nat) (h0 : w.cell? ⟨B, 0, none⟩ = some (.int .i64 a.all)) (h1 : w.cell? ⟨B, 1, none⟩ = some (.int .i64 a.non)) {v : Bool} (hv : covV rs a = v) :
    Calls Try.prog 75 #[.slice A n c, .func (.func 76) #[] #[.pointer (some ⟨B, 0, none⟩)]] w fun e w' => e = .returned (.bool v) ∧ Below w.heap.size w w' := by
  have hd := fidx_any (gtA a) rs
  rw [← covV_is, hv] at hd
  obtain ⟨x, hx⟩ : ∃ x, fidx (gtA a) rs = x := ⟨_, rfl⟩
  rw [hx] at hd
  have HX := Lib.hid hx
  have HR := Lib.hid hr
  have HIN := Lib.hid hin
  have HA := Lib.hid ha
  have HC0 := Lib.hid h0
  have HC1 := Lib.hid h1
  clear hx hr hin ha h0 h1 hv
  by_cases h : x < 0
  · have hvf : v = false := by rw [decide_eq_true h] at hd; cases v; rfl; cases hd
    have HV := Lib.hid hvf
    clear hd hvf
    go_enter Try.func75, Try.ntmps75
    go_wp2_with (go_at_call 103; refine (idxGr_v rs a _ _ _ _ HR.out HIN.out HA.out B HC0.out HC1.out HX.out).mono ?_; rintro e w1 ⟨rfl, hb1⟩; have HB1 := Lib.hid hb1; clear hb1)
    go_ret
    exact ⟨ret_bool (by first | (rw [HV.out]; done) | (rw [HV.out]; simp; done) | (rw [HV.out]; simp; omega)), HB1.out⟩
  · have hvf : v = true := by rw [decide_eq_false h] at hd; cases v; cases hd; rfl
    have HV := Lib.hid hvf
    clear hd hvf
    go_enter Try.func75, Try.ntmps75
    go_wp2_with (go_at_call 103; refine (idxGr_v rs a _ _ _ _ HR.out HIN.out HA.out B HC0.out HC1.out HX.out).mono ?_; rintro e w1 ⟨rfl, hb1⟩; have HB1 := Lib.hid hb1; clear hb1)
    go_ret
    exact ⟨ret_bool (by first | (rw [HV.out]; done) | (rw [HV.out]; simp; done) | (rw [HV.out]; simp; omega)), HB1.out⟩
end Go.Proofs.Ytpmanbmhbfnefaa
