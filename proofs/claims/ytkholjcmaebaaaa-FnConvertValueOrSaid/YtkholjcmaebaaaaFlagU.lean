import Derived.Test.YtkholjcmaebaaaaBaseE
import Derived.Test.YtkholjcmaebaaaaBaseC
import Derived.Test.YtkholjcmaebaaaaCel
namespace Go.Proofs.Ytkholjcmaebaaaa
open Go.RowKit Go.Maps
set_option linter.unusedVariables false
set_option maxRecDepth 100000

/-! ### checkedFlag -/
set_option maxHeartbeats 2000000 in
theorem checkedFlag_v (ds : List D) (b : Int) (A : Option Addr) (n c : Nat) (w : World) (hr : SD w w.heap.size A n c ds) (hn : n ≤ 1048576) {v : Bool} (hv : vFlag ds b = v) {A' : Option Addr} {n' c' : Nat} {b' : Int}
    (hq : if v then A' = A ∧ n' = n ∧ c' = c ∧ b' = b else A' = none ∧ n' = 0 ∧ c' = 0 ∧ b' = 0) :
    Calls Try.prog 146 #[.agg #[.slice A n c, .int .i64 b]] w fun e w' => e = .returned (.tuple #[.agg #[.slice A' n' c', .int .i64 b'], .bool v]) ∧ Below w.heap.size w w' := by
  have HF := Lib.hid ((FB.start hr b).alloc (.cells #[.slice none 0 0, .int .i64 0] 25))
  have HC : Hid (C2 ((w.alloc (.cells #[.slice A n c, .int .i64 b] 25)).alloc (.cells #[.slice none 0 0, .int .i64 0] 25)) (w.heap.size + 1) (.slice none 0 0) (.int .i64 0)) := Lib.hid (c2New' _ _ _ _ _)
  have HV := Lib.hid hv
  clear hr hv
  have p2 : w.heap.size ≤ w.heap.size + 1 := by omega
  cases v
  · obtain ⟨rfl, rfl, rfl, rfl⟩ := hq
    go_enter Try.func146, Try.ntmps146
    go_wp2_with fail
    refine (implVF_v ds b _ _ _ _ HF.out.sd hn HV.out).mono ?_
    rintro e w1 ⟨rfl, hb⟩
    have HF1 := Lib.hid (HF.out.call hb)
    obtain ⟨c0, c1, f0, f1⟩ := HC.out.below hb
    clear hb
    go_wp2
    exact bodyPost_ret (v := .tuple #[.agg #[.slice none 0 0, .int .i64 0], .bool false]) (by simp [results, Try.results146, go_sem, c0, c1]) rfl ⟨rfl, (HF1.out.bel.setCell p2 _).setCell p2 _⟩
  · obtain ⟨rfl, rfl, rfl, rfl⟩ := hq
    go_enter Try.func146, Try.ntmps146
    go_wp2_with fail
    refine (implVF_v ds b' _ _ _ _ HF.out.sd hn HV.out).mono ?_
    rintro e w1 ⟨rfl, hb⟩
    have HF1 := Lib.hid (HF.out.call hb)
    obtain ⟨c0, c1, f0, f1⟩ := HC.out.below hb
    have k0 := HF1.out.c0
    have k1 := HF1.out.c1
    clear hb
    go_wp2
    exact bodyPost_ret (v := .tuple #[.agg #[.slice A' n' c', .int .i64 b'], .bool true]) (by simp [results, Try.results146, go_sem, c0, c1]) rfl ⟨rfl, (HF1.out.bel.setCell p2 _).setCell p2 _⟩

/-! ### WithBound -/
def WithQ (ds : List D) (b2 : Int) (v : Bool) (es : List D) (rb : Int) : Prop := (v = true ∧ es = ds ∧ rb = b2) ∨ (v = false ∧ es = [] ∧ rb = 0)
theorem withQ_no {ds es : List D} {b2 rb : Int} {v : Bool} {w : World} (h : WithQ ds b2 v es rb) (hv : v = false) : FlagR es rb v w = FlagR [] 0 false w := by
  rcases h with ⟨h1, _⟩ | ⟨_, rfl, rfl⟩
  · rw [hv] at h1; cases h1
  · rw [hv]
theorem withQ_yes {ds es : List D} {b2 rb : Int} {v : Bool} {w : World} (h : WithQ ds b2 v es rb) (hv : v = true) : FlagR es rb v w = FlagR ds b2 true w := by
  rcases h with ⟨_, rfl, rfl⟩ | ⟨h1, _⟩
  · rw [hv]
  · rw [hv] at h1; cases h1
def mWith (ds : List D) (b b2 : Int) : Bool := vFlag ds b && vFlag ds b2
set_option maxHeartbeats 4000000 in
theorem implWith_any (ds : List D) (b b2 : Int) (A : Option Addr) (n c : Nat) (w : World) (hr : SD w w.heap.size A n c ds) (hn : n ≤ 1048576) {es : List D} {rb : Int} {mw : Bool} (hmw : mWith ds b b2 = mw) (hq : WithQ ds b2 mw es rb) :
    Calls Try.prog 85 #[.agg #[.slice A n c, .int .i64 b], .int .i64 b2] w (FlagR es rb mw w) := by
  have HF := Lib.hid ((FB.start hr b).alloc (.cells #[.slice none 0 0, .int .i64 0] 25))
  have HC : Hid (C2 ((w.alloc (.cells #[.slice A n c, .int .i64 b] 25)).alloc (.cells #[.slice none 0 0, .int .i64 0] 25)) (w.heap.size + 1) (.slice none 0 0) (.int .i64 0)) := Lib.hid (c2New' _ _ _ _ _)
  have HOK := Lib.hid hr.ok
  have HLN := Lib.hid hr.len
  have p2 : w.heap.size ≤ w.heap.size + 1 := by omega
  have HMW := Lib.hid hmw
  have HQ := Lib.hid hq
  clear hr hmw hq
  cases hv : vFlag ds b
  · have HV := Lib.hid hv
    have HM : Hid (mw = false) := Lib.hid (by rw [← HMW.out]; unfold mWith; rw [hv]; rfl)
    clear hv
    go_enter Try.func85, Try.ntmps85
    go_wp2_with fail
    refine (implVF_v ds b _ _ _ _ HF.out.sd hn HV.out).mono ?_
    rintro e w1 ⟨rfl, hb⟩
    have HB1 := Lib.hid (HF.out.call hb).bel
    obtain ⟨r0, r1, s0, s1⟩ := HC.out.below hb
    clear hb
    go_wp2
    rw [withQ_no HQ.out HM.out]
    exact bodyPost_ret (v := .tuple #[.agg #[.slice none 0 0, .int .i64 0], .bool false]) (by simp [results, Try.results85, go_sem, r0, r1]) rfl (flagR_no ((HB1.out.setCell p2 _).setCell p2 _))
  · have HV := Lib.hid hv
    have HM0 : Hid (mw = vFlag ds b2) := Lib.hid (by rw [← HMW.out]; unfold mWith; rw [hv]; rfl)
    have h12 : Hid (ds.length ≤ 12) := Lib.hid (vFlag_len hv)
    clear hv
    go_enter Try.func85, Try.ntmps85
    go_wp2_with fail
    refine (implVF_v ds b _ _ _ _ HF.out.sd hn HV.out).mono ?_
    rintro e w1 ⟨rfl, hb⟩
    have HF1 := Lib.hid (HF.out.call hb)
    have HC1 := Lib.hid (HC.out.below hb)
    have k0 := HF1.out.c0
    clear hb HF HC
    obtain ⟨w2, hw2⟩ : ∃ w2 : World, w2 = w1.alloc (.cells #[.slice A n c] 23) := ⟨_, rfl⟩
    have hb2 : Below w1.heap.size w1 w2 := by rw [hw2]; exact (Below.refl _ _).alloc (Nat.le_refl _) _
    have hz2 : w2.heap.size = w1.heap.size + 1 := by rw [hw2]; simp
    have HF2 := Lib.hid (HF1.out.call hb2)
    have HC2 := Lib.hid (HC1.out.below hb2)
    have HPT : Hid (Rd w2 w2.heap.size 1 encP (some ⟨w1.heap.size, 0, none⟩) [(⟨A, n, c, ds⟩ : Part D)]) := Lib.hid (part1 (by rw [hw2]; simp [go_sem]) (by omega))
    have HPS : Hid (∀ x ∈ [(⟨A, n, c, ds⟩ : Part D)], SL encD 2 w2 w2.heap.size x.A x.n x.c x.xs) := Lib.hid (by
      intro x hx
      simp at hx
      subst hx
      exact HF2.out.sd.sl)
    have HE : Hid (cat [(⟨A, n, c, ds⟩ : Part D)] = ds) := Lib.hid (by simp [cat])
    have HW2 := Lib.hid hw2.symm
    have HZ2 : Hid (w.heap.size + 1 + 1 ≤ w2.heap.size) := Lib.hid (by have := HC1.out.lt; omega)
    clear hb2 hw2 hz2 HF1 HC1
    go_wp2_with fail
    rw [HW2.out]
    refine (concatD_v _ _ _ _ _ HPT.out rfl (by simp) (by omega) HPS.out HE.out (by have := h12.out; omega)).mono ?_
    rintro e2 w4 ⟨A4, c4, rfl, ho, hb⟩
    have HF4 := Lib.hid (HF2.out.call hb)
    have HC4 := Lib.hid (HC2.out.below hb)
    have HO4 := Lib.hid (own_base ho HZ2.out)
    clear ho hb HF2 HC2 HPT HPS HW2 k0
    go_wp2_with fail
    cases hv2 : vFlag ds b2
    · have HV2 := Lib.hid hv2
      have HM : Hid (mw = false) := Lib.hid (by rw [HM0.out, hv2])
      clear hv2
      refine (checkedFlag_v ds b2 _ _ _ _ (sd_of_own HO4.out HOK.out) (by have := h12.out; omega) HV2.out (A' := none) (n' := 0) (c' := 0) (b' := 0) ⟨rfl, rfl, rfl, rfl⟩).mono ?_
      rintro e w5 ⟨rfl, hb⟩
      have HB5 := Lib.hid (HF4.out.call hb).bel
      obtain ⟨r0, r1, s0, s1⟩ := HC4.out.below hb
      clear hb
      go_wp2
      rw [withQ_no HQ.out HM.out]
      exact bodyPost_ret (v := .tuple #[.agg #[.slice none 0 0, .int .i64 0], .bool false]) (by simp [results, Try.results85, go_sem, r0, r1]) rfl (flagR_no ((HB5.out.setCell p2 _).setCell p2 _))
    · have HV2 := Lib.hid hv2
      have HM : Hid (mw = true) := Lib.hid (by rw [HM0.out, hv2])
      clear hv2
      refine (checkedFlag_v ds b2 _ _ _ _ (sd_of_own HO4.out HOK.out) (by have := h12.out; omega) HV2.out (A' := A4) (n' := ds.length) (c' := c4) (b' := b2) ⟨rfl, rfl, rfl, rfl⟩).mono ?_
      rintro e w5 ⟨rfl, hb⟩
      have HB5 := Lib.hid (HF4.out.call hb).bel
      obtain ⟨r0, r1, s0, s1⟩ := HC4.out.below hb
      have HO5 := Lib.hid (own_below HO4.out hb)
      clear hb
      go_wp2
      rw [withQ_yes HQ.out HM.out]
      have hq : ∀ q, (Value.slice A4 ds.length c4).ownBlock = some q → q ≠ w.heap.size + 1 := fun q hq => by have := (HO5.out.lt q hq).1; omega
      refine bodyPost_ret (v := .tuple #[.agg #[.slice A4 ds.length c4, .int .i64 b2], .bool true]) (by simp [results, Try.results85, go_sem, r0, r1]) rfl ⟨A4, c4, rfl, ?_, (HB5.out.setCell p2 _).setCell p2 _⟩
      exact own_base (own_setCell (own_setCell HO5.out (fun e => hq _ e rfl) _) (fun e => hq _ e rfl) _) (by omega)

def withDs (ds : List D) (b b2 : Int) : List D := if mWith ds b b2 then ds else []
def withBd (ds : List D) (b b2 : Int) : Int := if mWith ds b b2 then b2 else 0
theorem withQ_is (ds : List D) (b b2 : Int) : WithQ ds b2 (mWith ds b b2) (withDs ds b b2) (withBd ds b b2) := by
  unfold WithQ withDs withBd; cases mWith ds b b2 <;> simp
theorem withDs_len (ds : List D) (b b2 : Int) : (withDs ds b b2).length ≤ 12 := by
  unfold withDs
  cases h : mWith ds b b2
  · exact Nat.zero_le _
  · unfold mWith at h
    simp at h
    exact vFlag_len h.1
theorem withDs_ok {ds : List D} {b b2 : Int} (h : ∀ d ∈ ds, d.ok) : ∀ d ∈ withDs ds b b2, d.ok := by
  intro d hd
  unfold withDs at hd
  split at hd
  · exact h d hd
  · cases hd
end Go.Proofs.Ytkholjcmaebaaaa
