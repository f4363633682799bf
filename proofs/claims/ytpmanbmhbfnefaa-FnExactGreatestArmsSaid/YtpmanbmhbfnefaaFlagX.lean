import Derived.Test.YtpmanbmhbfnefaaOpen
import Derived.Test.YtpmanbmhbfnefaaBaseA
import Derived.Test.YtpmanbmhbfnefaaBaseC
import Derived.Test.YtpmanbmhbfnefaaBaseD
namespace Go.Proofs.Ytpmanbmhbfnefaa
open Go.ChangeShapes Go.WideShapes Go.ChangeAt Go.RowKit Go.Deep Go.Joins
open Go.ChangeMaps (open_string shut_string)
set_option linter.unusedVariables false
set_option maxRecDepth 100000

/-! ### classes of flags in the exact laws -/
section
variable {H : Type} {enc : TypeId × Value → H} {W : World} {base : Nat} {spare : Nat → Bool} {held : Bool}
theorem open_flag {r : Reach} {b0 : Nat} {v : Value} {d : DataW H} {p : List MemPlace} (hv : Value.okWide Try.prog W r b0 53 v) (h : DataW.Trod enc Try.prog W base spare held 53 v d p) :
    ∃ (A : Option Addr) (n c : Nat) (ds : List D) (b : Int), v = .agg #[.slice A n c, .int .i64 b] ∧ SD W W.heap.size A n c ds ∧ -9223372036854775808 ≤ b ∧ b ≤ 9223372036854775807 := by
  obtain ⟨v0, v1, y0, y1, n, rfl, _, _, h0, h1⟩ := open_agg2 Try.underlying53 (by kernel_rfl) (by kernel_rfl) hv h
  obtain ⟨z, e2, _, hz⟩ := DataW.trod_int Try.underlying3 h1
  simp at e2
  subst e2
  have h2 : ∃ A k c, v0 = .slice A k c := by
    rcases open_slice Try.underlying22 h0 with ⟨h0, _⟩ | ⟨a, len, cap, m, k, D, Pl, hcs, _⟩
    · simp at h0; exact ⟨_, _, _, h0⟩
    · simp at hcs; exact ⟨_, _, _, hcs⟩
  obtain ⟨A, k, c, rfl⟩ := h2
  obtain ⟨ds, hd⟩ := open_defs h0
  exact ⟨A, k, c, ds, z, rfl, hd, wf_bounds hz⟩
end

set_option maxHeartbeats 400000 in
theorem szFlag_any (ds : List D) (b : Int) (A : Option Addr) (c n : Nat) (left : Int) (w : World) (hr : SD w w.heap.size A n c ds) (h0 : 0 ≤ left) (h1 : left ≤ 1048576) :
    Calls Try.prog 24 #[.agg #[.slice A n c, .int .i64 b], .int .i64 left] w (SzP left n w) := by
  have HR := Lib.hid hr
  clear hr
  go_enter Try.func24, Try.ntmps24
  go_wp2_with (go_at_call 8; refine (szDefS_any ds _ _ _ _ _ ((HR.out.alloc (Nat.le_refl _) _).call (by simp)) h0 h1).mono ?_; rintro e w1 ⟨r1, rfl, hq0, hq1, hq2, hb1⟩; have HB1 := Lib.hid hb1; have HQ := Lib.hid hq2; clear hb1 hq2)
  all_goals
    go_ret
    exact ⟨_, rfl, by omega, by omega, fun h => HQ.out (by omega), ((Below.refl _ _).alloc (Nat.le_refl _) _).trans (HB1.out.mono (by simp))⟩

/-- A copy of a class of flags: its row is new. -/
def CopyF (n : Nat) (ds : List D) (b : Int) (w : World) (e : Ending) (w' : World) : Prop :=
  ∃ g, e = .returned (.agg #[.slice (some ⟨g, 0, none⟩) n n, .int .i64 b]) ∧ w'.ownsRow w.heap.size 48 2 (.slice (some ⟨g, 0, none⟩) n n) n (flat ds) ∧ Below w.heap.size w w'
set_option maxHeartbeats 2000000 in
theorem toFlag_any (ds : List D) (b : Int) (A : Option Addr) (c n : Nat) (w : World) (hr : SD w w.heap.size A n c ds) (hn : n ≤ 1048576) :
    Calls Try.prog 26 #[.agg #[.slice A n c, .int .i64 b]] w (CopyF n ds b w) := by
  have HR := Lib.hid hr
  clear hr
  go_enter Try.func26, Try.ntmps26
  go_wp2_with (go_at_call 11; refine (toDefS_any ds _ _ _ _ ((((HR.out.alloc (Nat.le_refl _) _).alloc (by simp) _).alloc (by simp; omega) _).call (by simp; omega)) hn).mono ?_; rintro e w1 ⟨rfl, ho1, hb1⟩; have HB1 := Lib.hid hb1; have HO1 := Lib.hid ho1; obtain ⟨hc, hf⟩ := bcell hb1; have hz : w.heap.size + 1 + 1 + 1 ≤ w1.heap.size := (by have := hb1.size; simpa using this); clear ho1 hb1)
  refine bodyPost_ret (v := .agg #[.slice (some ⟨w.heap.size + 1 + 1 + 1, 0, none⟩) n n, .int .i64 b]) (by simp [results, Try.results26, go_sem, hc]) rfl ⟨_, rfl, ?_, ?_⟩
  · have h0 : w1.ownsRow w.heap.size 48 2 (.slice (some ⟨w.heap.size + 1 + 1 + 1, 0, none⟩) n n) n (flat ds) := own_base (by simpa using HO1.out) (by omega)
    exact own_setCell (own_setCell (own_setCell (own_setCell h0 (by simp [Value.ownBlock]) _) (by simp [Value.ownBlock]) _) (by simp [Value.ownBlock]; omega) _) (by simp [Value.ownBlock]; omega) _
  · exact (((((((((Below.refl _ _).alloc (Nat.le_refl _) _).alloc (by simp) _).alloc (by simp; omega) _).trans (HB1.out.mono (by simp; omega))).setCell (by simp; omega) _).setCell (by simp; omega) _).setCell (by simp) _).setCell (by simp) _)

set_option maxHeartbeats 400000 in
theorem eqFlag_any (ds : List D) (b : Int) (A A2 : Option Addr) (c c2 n n2 : Nat) (w : World) (hr : SD w w.heap.size A n c ds) (hr2 : SD w w.heap.size A2 n2 c2 ds) :
    Calls Try.prog 30 #[.agg #[.slice A n c, .int .i64 b], .agg #[.slice A2 n2 c2, .int .i64 b]] w fun e w' => e = .returned (.bool true) ∧ Below w.heap.size w w' := by
  have HR := Lib.hid hr
  have HR2 := Lib.hid hr2
  clear hr hr2
  go_enter Try.func30, Try.ntmps30
  go_wp2_with (go_at_call 15; refine (eqDefS_any ds _ _ _ _ _ _ _ (((HR.out.alloc (Nat.le_refl _) _).alloc (by simp) _).call (by simp; omega)) (((HR2.out.alloc (Nat.le_refl _) _).alloc (by simp) _).call (by simp; omega))).mono ?_; rintro e w1 ⟨rfl, hb1⟩; have HB1 := Lib.hid hb1; obtain ⟨hc, hf⟩ := bcell hb1; have hz : w.heap.size + 1 + 1 ≤ w1.heap.size := (by have := hb1.size; simpa using this); clear hb1)
  go_ret
  exact ⟨rfl, (((Below.refl _ _).alloc (Nat.le_refl _) _).alloc (by simp) _).trans (HB1.out.mono (by simp; omega))⟩

set_option maxHeartbeats 1000000 in
theorem markFlag_any (k0 b : Int) (base : Nat) (A : Option Addr) (c n : Nat) (xs : List Value) (w : World) (h : w.ownsRow base 48 2 (.slice A n c) n xs) (h0 : 0 < k0) (h1 : k0 + 2 * n ≤ 7000000) :
    Calls Try.prog 31 #[.agg #[.slice A n c, .int .i64 b], .int .i64 k0] w (MarkP base 48 2 (.slice A n c) n (k0 + 2 * n) (marksD k0 n) w) := by
  have HO := Lib.hid h
  clear h
  go_enter Try.func31, Try.ntmps31
  go_wp2_with (go_at_call 17; refine (markDefS_any k0 base _ _ _ _ _ (HO.out.alloc _) h0 h1).mono ?_; rintro e w1 ⟨rfl, ho, hg⟩; have HO1 := Lib.hid ho; have HG1 := Lib.hid hg; clear ho hg)
  go_ret
  exact ⟨rfl, HO1.out, (World.grownBy_alloc _ _ _).trans HG1.out⟩

end Go.Proofs.Ytpmanbmhbfnefaa
