import Derived.Test.YtiebdhbioccogaaGreatDoorBaseC
namespace Go.Proofs.YtiebdhbioccogaaGreatDoor
open Go.RowKit
set_option linter.unusedVariables false
set_option maxRecDepth 100000

/-! ### arms -/
structure Ar where
  all : Int
  non : Int
def encA (k : Ar) : List Value := [.int .i64 k.all, .int .i64 k.non]
def Ar.ok (d : Ar) : Prop := I64 d.all ∧ I64 d.non
/-- The slice A, n, c holds the arms ks, below block B. -/
structure SA (w : World) (B : Nat) (A : Option Addr) (n c : Nat) (ks : List Ar) : Prop where
  rd : Rd w B 2 encA A ks
  len : ks.length = n
  cap : n ≤ c
  max : c ≤ maxLen
  ok : ∀ t ∈ ks, t.ok
section
variable {w w' : World} {B B' : Nat} {A : Option Addr} {n c : Nat} {ks : List Ar}
theorem SA.keep (h : SA w B A n c ks) (hk : Rd w B 2 encA A ks → Rd w' B' 2 encA A ks) : SA w' B' A n c ks := ⟨hk h.rd, h.len, h.cap, h.max, h.ok⟩
theorem SA.below (h : SA w B A n c ks) (hb : Below B w w') : SA w' B A n c ks := h.keep fun r => Rd.below r hb
theorem SA.below' {B0 : Nat} (h : SA w B A n c ks) (hb : Below B0 w w') (hB : B ≤ B0) : SA w' B A n c ks := h.keep fun r => Rd.below' r hb hB
theorem SA.more (h : SA w B A n c ks) (hB : B ≤ B') : SA w B' A n c ks := h.keep fun r => Rd.more r hB
theorem SA.drew (h : SA w B A n c ks) : SA w.drew B A n c ks := h.keep fun r => Rd.drew r
theorem SA.drewN (h : SA w B A n c ks) (k : Nat) : SA (w.drewN k) B A n c ks := h.keep fun r => Rd.drewN r k
theorem SA.alloc (h : SA w B A n c ks) (hB : B ≤ w.heap.size) (o : Obj) : SA (w.alloc o) B A n c ks := h.keep fun r => Rd.alloc r hB o
theorem SA.call (h : SA w B A n c ks) (hB : B ≤ w.heap.size) : SA w w.heap.size A n c ks := h.more hB
theorem SA.take_ (h : SA w B A n c ks) (k : Nat) (hk : k ≤ n) : SA w B A k c (ks.take k) :=
  ⟨Rd.take_ h.rd k, by have := h.len; simp; omega, by have := h.cap; omega, h.max, fun d hd => h.ok d (List.mem_of_mem_take hd)⟩
theorem SA.none_ (w : World) (B : Nat) : SA w B none 0 0 [] := ⟨Rd.nil_, rfl, Nat.le_refl _, by unfold maxLen; omega, by simp⟩
theorem SA.at_ (h : SA w B A n c ks) {k : Nat} (hk : k < ks.length) :
    ∃ b o, A = some ⟨b, o, none⟩ ∧ b < B ∧ w.cell? ⟨b, o + k * 2, none⟩ = some (.int .i64 ks[k].all) ∧ w.cell? ⟨b, o + k * 2 + 1, none⟩ = some (.int .i64 ks[k].non) := by
  obtain ⟨b, o, hA, hb, hc⟩ := Rd.at_ h.rd hk
  exact ⟨b, o, hA, hb, hc 0 _ rfl, hc 1 _ rfl⟩
end
def flatA (ks : List Ar) : List Value := ks.flatMap encA
theorem flatA_cons (d : Ar) (r : List Ar) : flatA (d :: r) = .int .i64 d.all :: .int .i64 d.non :: flatA r := by simp [flatA, encA]
theorem flatA_length (ks : List Ar) : (flatA ks).length = ks.length * 2 := by
  induction ks with
  | nil => rfl
  | cons d r ih => rw [flatA_cons]; simp [ih]; omega
theorem flatA_get (ks : List Ar) (i : Nat) (h : i < ks.length) : (flatA ks)[i * 2]? = some (.int .i64 ks[i].all) ∧ (flatA ks)[i * 2 + 1]? = some (.int .i64 ks[i].non) := by
  induction ks generalizing i with
  | nil => simp at h
  | cons d r ih =>
    rw [flatA_cons]
    cases i with
    | zero => simp
    | succ i =>
      have := ih i (by simpa using h)
      rw [show (i + 1) * 2 = i * 2 + 1 + 1 from by omega, show i * 2 + 1 + 1 + 1 = (i * 2 + 1) + 1 + 1 from rfl]
      simpa using this
theorem flatA_snoc (ks : List Ar) (k : Nat) (h : k < ks.length) : flatA (ks.take (k + 1)) = flatA (ks.take k) ++ [.int .i64 ks[k].all, .int .i64 ks[k].non] := by
  unfold flatA
  rw [List.take_succ_eq_append_getElem h, List.flatMap_append]
  simp only [List.flatMap_cons, List.flatMap_nil, List.append_nil]
  rfl
theorem flatA_app (xs ys : List Ar) : flatA (xs ++ ys) = flatA xs ++ flatA ys := by unfold flatA; rw [List.flatMap_append]
/-- An owned row of arms reads as a slice of them. -/
theorem sa_of_own {w : World} {base n c : Nat} {A : Option Addr} {e : TypeId} {ks : List Ar} (h : w.ownsRow base e 2 (.slice A n c) n (flatA ks)) (hok : ∀ d ∈ ks, d.ok) : SA w w.heap.size A n c ks := by
  have hl : ks.length = n := by have := h.1; rw [flatA_length] at this; omega
  rcases h.2 with ⟨h1, h2⟩ | ⟨g, cap, cur, h1, hb, hg, hc, hm, hs, ht⟩
  · injection h1 with e1 e2 e3
    exact ⟨.inl (List.eq_nil_of_length_eq_zero (by omega)), hl, by omega, by subst e3; unfold maxLen; omega, hok⟩
  · injection h1 with e1 e2 e3
    subst e1 e3
    refine ⟨.inr ⟨g, 0, rfl, (Array.getElem?_eq_some_iff.1 hg).1, fun i x hi j v hj => ?_⟩, hl, hc, hm, hok⟩
    obtain ⟨hil, rfl⟩ := List.getElem?_eq_some_iff.1 hi
    obtain ⟨q1, q2⟩ := flatA_get ks i hil
    have hc : ∀ j, j < n * 2 → w.cell? ⟨g, j, none⟩ = (flatA ks)[j]? := fun j hj => h.cellAt j hj
    match j, hj with
    | 0, hj =>
      simp [encA] at hj
      subst hj
      rw [show 0 + i * 2 + 0 = i * 2 from by omega, hc _ (by omega)]
      exact q1
    | 1, hj =>
      simp [encA] at hj
      subst hj
      rw [show 0 + i * 2 + 1 = i * 2 + 1 from by omega, hc _ (by omega)]
      exact q2
    | j + 2, hj => simp [encA] at hj

section
variable {W : World} {ops : Array Oper} {rest : List Oper} {o : Oper} {a : Act} {Q : Exit → Act → World → Prop}
end
end Go.Proofs.YtiebdhbioccogaaGreatDoor
