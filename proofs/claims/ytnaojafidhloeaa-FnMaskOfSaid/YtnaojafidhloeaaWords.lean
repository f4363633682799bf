/-
Slices of flat structs that read as lists: 'Rd w B sz enc A xs': the slice at address A holds the elements xs, each of sz cells, in a block below B.
-/
import Derived.WalkKit
import Derived.WalkSpells
import Derived.Laws.OwnMore
import Derived.Deep.Draws
import Derived.Maps.AppendAt
import Derived.Lib.Hide
import Derived.Test.YtnaojafidhloeaaFun
namespace Go.Proofs.Ytnaojafidhloeaa
open Go.RowKit
set_option linter.unusedVariables false
set_option maxRecDepth 100000

def Rd {α : Type} (w : World) (B sz : Nat) (enc : α → List Value) (A : Option Addr) (xs : List α) : Prop :=
  xs = [] ∨ ∃ b o, A = some ⟨b, o, none⟩ ∧ b < B ∧ ∀ i x, xs[i]? = some x → ∀ j v, (enc x)[j]? = some v → w.cell? ⟨b, o + i * sz + j, none⟩ = some v

section
variable {α : Type} {w w' : World} {B B' sz : Nat} {enc : α → List Value} {A : Option Addr} {xs : List α}
theorem Rd.nil_ : Rd w B sz enc A ([] : List α) := .inl rfl
theorem Rd.at_ (h : Rd w B sz enc A xs) {k : Nat} (hk : k < xs.length) :
    ∃ b o, A = some ⟨b, o, none⟩ ∧ b < B ∧ ∀ j v, (enc xs[k])[j]? = some v → w.cell? ⟨b, o + k * sz + j, none⟩ = some v := by
  rcases h with rfl | ⟨b, o, hA, hb, hc⟩
  · simp at hk
  · exact ⟨b, o, hA, hb, fun j v hj => hc k _ (List.getElem?_eq_getElem hk) j v hj⟩
theorem Rd.keep (h : Rd w B sz enc A xs) (hk : ∀ p : Addr, p.block < B → w'.cell? p = w.cell? p) : Rd w' B sz enc A xs := by
  rcases h with rfl | ⟨b, o, hA, hb, hc⟩
  · exact .inl rfl
  · exact .inr ⟨b, o, hA, hb, fun i x hi j v hj => (hk ⟨b, o + i * sz + j, none⟩ hb).trans (hc i x hi j v hj)⟩
theorem Rd.more (h : Rd w B sz enc A xs) (hB : B ≤ B') : Rd w B' sz enc A xs := by
  rcases h with rfl | ⟨b, o, hA, hb, hc⟩
  · exact .inl rfl
  · exact .inr ⟨b, o, hA, by omega, hc⟩
theorem Rd.below (h : Rd w B sz enc A xs) (hb : Below B w w') : Rd w' B sz enc A xs := h.keep fun p hp => hb.cell hp
theorem Rd.below' {B0 : Nat} (h : Rd w B sz enc A xs) (hb : Below B0 w w') (hB : B ≤ B0) : Rd w' B sz enc A xs := h.keep fun p hp => hb.cell (by omega)
theorem Rd.alloc (h : Rd w B sz enc A xs) (hB : B ≤ w.heap.size) (o : Obj) : Rd (w.alloc o) B sz enc A xs := h.keep fun p hp => World.cell?_alloc_lt w o p (by omega)
theorem Rd.drew (h : Rd w B sz enc A xs) : Rd w.drew B sz enc A xs := h
theorem Rd.drewN (h : Rd w B sz enc A xs) (k : Nat) : Rd (w.drewN k) B sz enc A xs := h
theorem Rd.take_ (h : Rd w B sz enc A xs) (k : Nat) : Rd w B sz enc A (xs.take k) := by
  rcases h with rfl | ⟨b, o, hA, hb, hc⟩
  · exact .inl (by simp)
  · refine .inr ⟨b, o, hA, hb, fun i x hi j v hj => hc i x ?_ j v hj⟩
    rw [List.getElem?_take] at hi
    split at hi
    · exact hi
    · cases hi
theorem Rd.setCell (h : Rd w B sz enc A xs) {p : Addr} (hB : B ≤ p.block) (u : Value) : Rd (w.setCell p u) B sz enc A xs :=
  h.keep fun q hq => World.cell?_setCell_other w p q u (fun e => by subst e; omega)
end

theorem nm_true {a b : ByteArray} (h : a = b) : (a.toList == b.toList) = true := by subst h; simp
theorem nm_inj {a b : ByteArray} (h : a.toList = b.toList) : a = b := by
  rw [Go.ByteArray.toList_eq, Go.ByteArray.toList_eq] at h
  exact ByteArray.ext (Array.toList_inj.1 h)
theorem nm_false {a b : ByteArray} (h : ¬ a = b) : (a.toList == b.toList) = false := by
  rw [beq_eq_false_iff_ne]
  exact fun e => h (nm_inj e)
theorem isNm_iff {s : ByteArray} {d : D} : isNm s d = true ↔ d.name = s := by
  unfold isNm; rw [beq_iff_eq]; exact ⟨nm_inj, fun h => by rw [h]⟩
def encD (d : D) : List Value := [.string d.name, .int .i64 d.val]
def encS (s : ByteArray) : List Value := [.string s]
def encI (n : Int) : List Value := [.int .i64 n]
/-- What is so of each definition that was read: its name is a string's length, its value an int64. -/
def D.ok (d : D) : Prop := d.name.size ≤ maxLen ∧ -9223372036854775808 ≤ d.val ∧ d.val ≤ 9223372036854775807
def RdD (w : World) (B : Nat) (A : Option Addr) (ds : List D) : Prop := Rd w B 2 encD A ds

theorem RdD.at_ {w : World} {B : Nat} {A : Option Addr} {ds : List D} (h : RdD w B A ds) {k : Nat} (hk : k < ds.length) :
    ∃ b o, A = some ⟨b, o, none⟩ ∧ b < B ∧ w.cell? ⟨b, o + k * 2, none⟩ = some (.string ds[k].name) ∧ w.cell? ⟨b, o + k * 2 + 1, none⟩ = some (.int .i64 ds[k].val) := by
  obtain ⟨b, o, hA, hb, hc⟩ := Rd.at_ h hk
  exact ⟨b, o, hA, hb, hc 0 _ rfl, hc 1 _ rfl⟩

/-- The slice A, n, c holds the definitions ds, below block B. -/
structure SD (w : World) (B : Nat) (A : Option Addr) (n c : Nat) (ds : List D) : Prop where
  rd : RdD w B A ds
  len : ds.length = n
  cap : n ≤ c
  max : c ≤ maxLen
  ok : ∀ d ∈ ds, d.ok
section
variable {w w' : World} {B B' : Nat} {A : Option Addr} {n c : Nat} {ds : List D}
theorem SD.keep (h : SD w B A n c ds) (hk : RdD w B A ds → RdD w' B' A ds) : SD w' B' A n c ds := ⟨hk h.rd, h.len, h.cap, h.max, h.ok⟩
theorem SD.below (h : SD w B A n c ds) (hb : Below B w w') : SD w' B A n c ds := h.keep fun r => Rd.below r hb
theorem SD.below' {B0 : Nat} (h : SD w B A n c ds) (hb : Below B0 w w') (hB : B ≤ B0) : SD w' B A n c ds := h.keep fun r => Rd.below' r hb hB
theorem SD.more (h : SD w B A n c ds) (hB : B ≤ B') : SD w B' A n c ds := h.keep fun r => Rd.more r hB
theorem SD.drew (h : SD w B A n c ds) : SD w.drew B A n c ds := h.keep fun r => Rd.drew r
theorem SD.drewN (h : SD w B A n c ds) (k : Nat) : SD (w.drewN k) B A n c ds := h.keep fun r => Rd.drewN r k
theorem SD.alloc (h : SD w B A n c ds) (hB : B ≤ w.heap.size) (o : Obj) : SD (w.alloc o) B A n c ds := h.keep fun r => Rd.alloc r hB o
theorem SD.take_ (h : SD w B A n c ds) (k : Nat) (hk : k ≤ n) : SD w B A k c (ds.take k) :=
  ⟨Rd.take_ h.rd k, by have := h.len; simp; omega, by have := h.cap; omega, h.max, fun d hd => h.ok d (List.mem_of_mem_take hd)⟩
/-- .. for a call: in a world at least as great. -/
theorem SD.call (h : SD w B A n c ds) (hB : B ≤ w.heap.size) : SD w w.heap.size A n c ds := h.more hB
theorem SD.at_ (h : SD w B A n c ds) {k : Nat} (hk : k < ds.length) :
    ∃ b o, A = some ⟨b, o, none⟩ ∧ b < B ∧ w.cell? ⟨b, o + k * 2, none⟩ = some (.string ds[k].name) ∧ w.cell? ⟨b, o + k * 2 + 1, none⟩ = some (.int .i64 ds[k].val) := h.rd.at_ hk
end

/-- The slice A, n, c holds the texts ss, below block B. -/
structure SS (w : World) (B : Nat) (A : Option Addr) (n c : Nat) (ss : List ByteArray) : Prop where
  rd : Rd w B 1 encS A ss
  len : ss.length = n
  cap : n ≤ c
  max : c ≤ maxLen
  ok : ∀ s ∈ ss, s.size ≤ maxLen
section
variable {w w' : World} {B B' : Nat} {A : Option Addr} {n c : Nat} {ds : List ByteArray}
theorem SS.keep (h : SS w B A n c ds) (hk : Rd w B 1 encS A ds → Rd w' B' 1 encS A ds) : SS w' B' A n c ds := ⟨hk h.rd, h.len, h.cap, h.max, h.ok⟩
theorem SS.below (h : SS w B A n c ds) (hb : Below B w w') : SS w' B A n c ds := h.keep fun r => Rd.below r hb
theorem SS.below' {B0 : Nat} (h : SS w B A n c ds) (hb : Below B0 w w') (hB : B ≤ B0) : SS w' B A n c ds := h.keep fun r => Rd.below' r hb hB
theorem SS.more (h : SS w B A n c ds) (hB : B ≤ B') : SS w B' A n c ds := h.keep fun r => Rd.more r hB
theorem SS.drew (h : SS w B A n c ds) : SS w.drew B A n c ds := h.keep fun r => Rd.drew r
theorem SS.drewN (h : SS w B A n c ds) (k : Nat) : SS (w.drewN k) B A n c ds := h.keep fun r => Rd.drewN r k
theorem SS.alloc (h : SS w B A n c ds) (hB : B ≤ w.heap.size) (o : Obj) : SS (w.alloc o) B A n c ds := h.keep fun r => Rd.alloc r hB o
theorem SS.call (h : SS w B A n c ds) (hB : B ≤ w.heap.size) : SS w w.heap.size A n c ds := h.more hB
theorem SS.at_ (h : SS w B A n c ds) {k : Nat} (hk : k < ds.length) : ∃ b o, A = some ⟨b, o, none⟩ ∧ b < B ∧ w.cell? ⟨b, o + k, none⟩ = some (.string ds[k]) := by
  obtain ⟨b, o, hA, hb, hc⟩ := Rd.at_ h.rd hk
  exact ⟨b, o, hA, hb, by simpa using hc 0 _ rfl⟩
end
/-- The slice A, n, c holds the numbers ss, below block B. -/
structure SI (w : World) (B : Nat) (A : Option Addr) (n c : Nat) (ss : List Int) : Prop where
  rd : Rd w B 1 encI A ss
  len : ss.length = n
  cap : n ≤ c
  max : c ≤ maxLen
  ok : ∀ s ∈ ss, -9223372036854775808 ≤ s ∧ s ≤ 9223372036854775807
section
variable {w w' : World} {B B' : Nat} {A : Option Addr} {n c : Nat} {ds : List Int}
theorem SI.keep (h : SI w B A n c ds) (hk : Rd w B 1 encI A ds → Rd w' B' 1 encI A ds) : SI w' B' A n c ds := ⟨hk h.rd, h.len, h.cap, h.max, h.ok⟩
theorem SI.below (h : SI w B A n c ds) (hb : Below B w w') : SI w' B A n c ds := h.keep fun r => Rd.below r hb
theorem SI.below' {B0 : Nat} (h : SI w B A n c ds) (hb : Below B0 w w') (hB : B ≤ B0) : SI w' B A n c ds := h.keep fun r => Rd.below' r hb hB
theorem SI.more (h : SI w B A n c ds) (hB : B ≤ B') : SI w B' A n c ds := h.keep fun r => Rd.more r hB
theorem SI.drew (h : SI w B A n c ds) : SI w.drew B A n c ds := h.keep fun r => Rd.drew r
theorem SI.drewN (h : SI w B A n c ds) (k : Nat) : SI (w.drewN k) B A n c ds := h.keep fun r => Rd.drewN r k
theorem SI.alloc (h : SI w B A n c ds) (hB : B ≤ w.heap.size) (o : Obj) : SI (w.alloc o) B A n c ds := h.keep fun r => Rd.alloc r hB o
theorem SI.call (h : SI w B A n c ds) (hB : B ≤ w.heap.size) : SI w w.heap.size A n c ds := h.more hB
theorem SI.at_ (h : SI w B A n c ds) {k : Nat} (hk : k < ds.length) : ∃ b o, A = some ⟨b, o, none⟩ ∧ b < B ∧ w.cell? ⟨b, o + k, none⟩ = some (.int .i64 ds[k]) := by
  obtain ⟨b, o, hA, hb, hc⟩ := Rd.at_ h.rd hk
  exact ⟨b, o, hA, hb, by simpa using hc 0 _ rfl⟩
end
end Go.Proofs.Ytnaojafidhloeaa
