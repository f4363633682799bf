import Derived.Test.YtlabdkmjdejgcaaFlagM
import Derived.Test.YtlabdkmjdejgcaaEdit
import Derived.Test.YtlabdkmjdejgcaaCel
namespace Go.Proofs.Ytlabdkmjdejgcaa
open Go.RowKit Go.Maps
set_option linter.unusedVariables false
set_option maxRecDepth 100000

/-! ### checkedFlag -/
set_option maxHeartbeats 2000000 in
theorem checkedFlag_v (ds : List D) (b : Int) (A : Option Addr) (n c : Nat) (w : World) (hr : SD w w.heap.size A n c ds) (hn : n ≤ 1048576) {v : Bool} (hv : vFlag ds b = v) {A' : Option Addr} {n' c' : Nat} {b' : Int}
    (hq : if v then A' = A ∧ n' = n ∧ c' = c ∧ b' = b else A' = none ∧ n' = 0 ∧ c' = 0 ∧ b' = 0) :
    Calls Try.prog 58 #[.agg #[.slice A n c, .int .i64 b]] w fun e w' => e = .returned (.tuple #[.agg #[.slice A' n' c', .int .i64 b'], .bool v]) ∧ Below w.heap.size w w' := by
  have HF := Lib.hid ((FB.start hr b).alloc (.cells #[.slice none 0 0, .int .i64 0] 30))
  have HC : Hid (C2 ((w.alloc (.cells #[.slice A n c, .int .i64 b] 30)).alloc (.cells #[.slice none 0 0, .int .i64 0] 30)) (w.heap.size + 1) (.slice none 0 0) (.int .i64 0)) := Lib.hid (c2New' _ _ _ _ _)
  have HV := Lib.hid hv
  clear hr hv
  have p2 : w.heap.size ≤ w.heap.size + 1 := by omega
  cases v
  · obtain ⟨rfl, rfl, rfl, rfl⟩ := hq
    go_enter Try.func58, Try.ntmps58
    go_wp2_with fail
    refine (implVF_v ds b _ _ _ _ HF.out.sd hn HV.out).mono ?_
    rintro e w1 ⟨rfl, hb⟩
    have HF1 := Lib.hid (HF.out.call hb)
    obtain ⟨c0, c1, f0, f1⟩ := HC.out.below hb
    clear hb
    go_wp2
    exact bodyPost_ret (v := .tuple #[.agg #[.slice none 0 0, .int .i64 0], .bool false]) (by simp [results, Try.results58, go_sem, c0, c1]) rfl ⟨rfl, (HF1.out.bel.setCell p2 _).setCell p2 _⟩
  · obtain ⟨rfl, rfl, rfl, rfl⟩ := hq
    go_enter Try.func58, Try.ntmps58
    go_wp2_with fail
    refine (implVF_v ds b' _ _ _ _ HF.out.sd hn HV.out).mono ?_
    rintro e w1 ⟨rfl, hb⟩
    have HF1 := Lib.hid (HF.out.call hb)
    obtain ⟨c0, c1, f0, f1⟩ := HC.out.below hb
    have k0 := HF1.out.c0
    have k1 := HF1.out.c1
    clear hb
    go_wp2
    exact bodyPost_ret (v := .tuple #[.agg #[.slice A' n' c', .int .i64 b'], .bool true]) (by simp [results, Try.results58, go_sem, c0, c1]) rfl ⟨rfl, (HF1.out.bel.setCell p2 _).setCell p2 _⟩

/-! ### WithBound -/
def WithQ (ds : List D) (b2 : Int) (v : Bool) (es : List D) (rb : Int) : Prop := (v = true ∧ es = ds ∧ rb = b2) ∨ (v = false ∧ es = [] ∧ rb = 0)
theorem withQ_no {ds es : List D} {b2 rb : Int} {v : Bool} {w : World} (h : WithQ ds b2 v es rb) (hv : v = false) : FlagR es rb v w = FlagR [] 0 false w := by
  rcases h with ⟨h1, _⟩ | ⟨_, rfl, rfl⟩
  · rw [hv] at h1; cases h1
  · rw [hv]
theorem withQ_yes {ds es : List D} {b2 rb : Int} {v : Bool} {w : World} (h : WithQ ds b2 v es rb) (hv : v = true) : FlagR es rb v w = FlagR ds b2 true w := by
  rcases h with ⟨_, rfl, rfl⟩ | ⟨h1, _⟩
  · rw [hv]
  · rw [hv] at h1; cases h1
def mWith (ds : List D) (b b2 : Int) : Bool := vFlag ds b && vFlag ds b2
def withDs (ds : List D) (b b2 : Int) : List D := if mWith ds b b2 then ds else []
def withBd (ds : List D) (b b2 : Int) : Int := if mWith ds b b2 then b2 else 0
theorem withQ_is (ds : List D) (b b2 : Int) : WithQ ds b2 (mWith ds b b2) (withDs ds b b2) (withBd ds b b2) := by
  unfold WithQ withDs withBd; cases mWith ds b b2 <;> simp
theorem withDs_len (ds : List D) (b b2 : Int) : (withDs ds b b2).length ≤ 12 := by
  unfold withDs
  cases h : mWith ds b b2
  · exact Nat.zero_le _
  · unfold mWith at h
    simp at h
    exact vFlag_len h.1
theorem withDs_ok {ds : List D} {b b2 : Int} (h : ∀ d ∈ ds, d.ok) : ∀ d ∈ withDs ds b b2, d.ok := by
  intro d hd
  unfold withDs at hd
  split at hd
  · exact h d hd
  · cases hd
end Go.Proofs.Ytlabdkmjdejgcaa
