import Derived.Test.YtkholjcmaebaaaaFlagU
import Derived.Test.YtkholjcmaebaaaaGenG
namespace Go.Proofs.Ytkholjcmaebaaaa
open Go.RowKit
set_option linter.unusedVariables false
set_option maxRecDepth 100000

/-- The same class, with the bound that keeps. -/
def KeptP (ds : List D) (w : World) (e : Ending) (w' : World) : Prop :=
  ∃ A c, e = .returned (.agg #[.slice A ds.length c, .int .i64 3]) ∧ w'.ownsRow w.heap.size 94 2 (.slice A ds.length c) ds.length (flat ds) ∧ Below w.heap.size w w'
theorem vFlag_3 {ds : List D} {b : Int} (hv : vFlag ds b = true) : vFlag ds 3 = true := by
  unfold vFlag; rw [vFlag_defs hv]; rfl
set_option maxHeartbeats 2000000 in
theorem kept_any (ds : List D) (b : Int) (A : Option Addr) (n c : Nat) (w : World) (hr : SD w w.heap.size A n c ds) (hn : n ≤ 1048576) (hv : vFlag ds b = true) :
    Calls Try.prog 19 #[.agg #[.slice A n c, .int .i64 b]] w (KeptP ds w) := by
  have HQ : Hid (WithQ ds 3 true ds 3) := Lib.hid (.inl ⟨rfl, rfl, rfl⟩)
  have HM : Hid (mWith ds b 3 = true) := Lib.hid (by unfold mWith; rw [hv, vFlag_3 hv]; rfl)
  have HF := Lib.hid ((FB.start hr b).alloc (.cells #[.slice none 0 0, .int .i64 0] 25))
  have HC : Hid (C2 ((w.alloc (.cells #[.slice A n c, .int .i64 b] 25)).alloc (.cells #[.slice none 0 0, .int .i64 0] 25)) (w.heap.size + 1) (.slice none 0 0) (.int .i64 0)) := Lib.hid (c2New' _ _ _ _ _)
  have hs : w.heap.size + 2 ≤ ((w.alloc (.cells #[.slice A n c, .int .i64 b] 25)).alloc (.cells #[.slice none 0 0, .int .i64 0] 25)).heap.size := by simp
  clear hr hv
  go_enter Try.func19, Try.ntmps19
  go_wp2_with fail
  generalize ((w.alloc (.cells #[.slice A n c, .int .i64 b] 25)).alloc (.cells #[.slice none 0 0, .int .i64 0] 25)) = w0 at *
  refine (implWith_any ds b 3 _ _ _ _ HF.out.sd hn HM.out HQ.out).mono ?_
  rintro e w1 ⟨A1, k1, rfl, ho, hb⟩
  have hb2 : Below w1.heap.size w1 (w1.alloc (.cells #[.slice A1 ds.length k1, .int .i64 3] 25)) := (Below.refl _ _).alloc (Nat.le_refl _) _
  have HL : Hid (∀ q, (Value.slice A1 ds.length k1).ownBlock = some q → w.heap.size + 2 ≤ q) := Lib.hid fun q hq => by have := (ho.lt q hq).1; omega
  have HO2 := Lib.hid (own_below ho hb2)
  have HC2 := Lib.hid ((HC.out.below hb).below hb2)
  have HB2 : Hid (Below w.heap.size w (w1.alloc (.cells #[.slice A1 ds.length k1, .int .i64 3] 25))) := Lib.hid ((HF.out.after hb).trans (hb2.mono (HF.out.after hb).size))
  obtain ⟨c0, c1, f0, f1⟩ := HC2.out
  clear ho hb hb2 HF HC
  go_wp2
  refine bodyPost_ret (v := .agg #[.slice A1 ds.length k1, .int .i64 3]) (by simp [results, Try.results19, go_sem, c0, c1]) rfl ⟨A1, k1, rfl, ?_, ?_⟩
  · exact own_setCell (own_setCell (own_base HO2.out (by omega)) (fun e => by have := HL.out _ e; simp only at this; omega) _) (fun e => by have := HL.out _ e; simp only at this; omega) _
  · exact (HB2.out.setCell (by simp) _).setCell (by simp) _
end Go.Proofs.Ytkholjcmaebaaaa
