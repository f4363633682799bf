import Derived.Test.YtiebdhbioccogaaGreatDoorRows
import Derived.WalkKit
import Derived.WalkSpells
import Derived.WalkLawsBesides
import Derived.Lib.Hide
import Derived.Laws.OwnMore
import Derived.Deep.Draws
import Derived.Maps.AppendAt
import Derived.Deep.QuietTactic
import Derived.BigQuiet
import Derived.StillTailTactics
import Derived.Deep.RegionHeld3
import Derived.WalkSmall
/-
Plain functions on names, definitions and lists of them: what the functions of chapter 1 compute. No program in sight.
-/
namespace Go.Proofs.YtiebdhbioccogaaGreatDoor
/-- A definition: a name with its value. -/
structure D where
  name : ByteArray
  val : Int
/-- A letter from a to z. -/
def okB (c : UInt8) : Bool := decide (97 ≤ c.toNat) && decide (c.toNat ≤ 122)
/-- The first k bytes of s are letters. -/
def okTo (s : ByteArray) (k : Nat) : Bool := (s.data.toList.take k).all okB
/-- A valid name. -/
def vName (s : ByteArray) : Bool := decide (1 ≤ s.size) && decide (s.size ≤ 6) && okTo s s.size

theorem okTo_zero (s : ByteArray) : okTo s 0 = true := by simp [okTo]
theorem okTo_succ (s : ByteArray) (k : Nat) (h : k < s.size) : okTo s (k + 1) = (okTo s k && okB s[k]) := by
  unfold okTo
  rw [List.take_succ_eq_append_getElem (by simpa using h), List.all_append]
  simp
  rfl
theorem okTo_false (s : ByteArray) (k : Nat) (h : okTo s k = false) : okTo s s.size = false := by
  unfold okTo at *
  rw [List.all_eq_false] at *
  obtain ⟨x, hx, hx2⟩ := h
  have := List.mem_of_mem_take hx
  exact ⟨x, by rw [List.take_of_length_le (by simp)]; exact this, hx2⟩
theorem okB_lt (c : UInt8) (h : (c.toNat : Int) < 97) : okB c = false := by unfold okB; simp; omega
theorem okB_gt (c : UInt8) (h : 122 < (c.toNat : Int)) : okB c = false := by unfold okB; simp; omega
theorem okB_in (c : UInt8) (h : 97 ≤ (c.toNat : Int)) (h2 : (c.toNat : Int) ≤ 122) : okB c = true := by unfold okB; simp; omega

/-! ### the first element for which p holds -/
/-- The index of the first element for which p holds, -1 if there is none. -/
def fidx {α : Type} (p : α → Bool) (l : List α) : Int := match l.findIdx? p with
  | some i => (i : Int)
  | none => -1
/-- p holds for none of the first k. -/
def noTo {α : Type} (p : α → Bool) (l : List α) (k : Nat) : Prop := ∀ i (h : i < l.length), i < k → p l[i] = false
theorem noTo_zero {α : Type} (p : α → Bool) (l : List α) : noTo p l 0 := fun i _ h => absurd h (by omega)
theorem noTo_succ {α : Type} {p : α → Bool} {l : List α} {k : Nat} (h : noTo p l k) (hk : k < l.length) (hp : p l[k] = false) : noTo p l (k + 1) := by
  intro i hi hik
  by_cases e : i = k
  · subst e; exact hp
  · exact h i hi (by omega)
theorem fidx_none {α : Type} {p : α → Bool} {l : List α} (h : noTo p l l.length) : fidx p l = -1 := by
  have : l.findIdx? p = none := by
    rw [List.findIdx?_eq_none_iff]
    intro x hx
    obtain ⟨i, hi, rfl⟩ := List.mem_iff_getElem.1 hx
    exact h i hi hi
  unfold fidx; rw [this]
theorem fidx_some {α : Type} {p : α → Bool} {l : List α} {k : Nat} (h : noTo p l k) (hk : k < l.length) (hp : p l[k] = true) : fidx p l = (k : Int) := by
  have : l.findIdx? p = some k := by
    rw [List.findIdx?_eq_some_iff_getElem]
    exact ⟨hk, hp, fun j hj => by simp [h j (by omega) hj]⟩
  unfold fidx; rw [this]
/-- What fidx tells. -/
theorem fidx_cases {α : Type} (p : α → Bool) (l : List α) : (fidx p l = -1 ∧ noTo p l l.length) ∨ ∃ k : Nat, ∃ h : k < l.length, fidx p l = (k : Int) ∧ p l[k] = true ∧ noTo p l k := by
  cases e : l.findIdx? p with
  | none =>
    refine .inl ⟨by unfold fidx; rw [e], ?_⟩
    rw [List.findIdx?_eq_none_iff] at e
    exact fun i hi _ => by simpa using e _ (List.getElem_mem hi)
  | some k =>
    obtain ⟨hk, hp, hn⟩ := List.findIdx?_eq_some_iff_getElem.1 e
    exact .inr ⟨k, hk, by unfold fidx; rw [e], hp, fun j hj hjk => by simpa using hn j hjk⟩
def isNm (s : ByteArray) (d : D) : Bool := d.name.toList == s.toList
def isVal (n : Int) (d : D) : Bool := d.val == n

/-! ### valid definitions -/
/-- The definition at i is good: its name is one, its value is in the range, and no earlier one has its name. -/
def goodAt (lo hi : Int) (ds : List D) (i : Nat) (d : D) : Bool :=
  vName d.name && (decide (lo ≤ d.val) && decide (d.val ≤ hi)) && decide (fidx (isNm d.name) (ds.take i) < 0)
/-- The first k definitions are good. -/
def goodTo (lo hi : Int) (ds : List D) (k : Nat) : Prop := ∀ i (h : i < ds.length), i < k → goodAt lo hi ds i ds[i] = true
instance (lo hi : Int) (ds : List D) (k : Nat) : Decidable (goodTo lo hi ds k) := by unfold goodTo; infer_instance
def vDefs (lo hi : Int) (ds : List D) : Bool := decide (goodTo lo hi ds ds.length) && decide (ds.length ≤ 12)
theorem goodTo_zero (lo hi : Int) (ds : List D) : goodTo lo hi ds 0 := fun i _ h => absurd h (by omega)
theorem goodTo_succ {lo hi : Int} {ds : List D} {k : Nat} (h : goodTo lo hi ds k) (hk : k < ds.length) (hp : goodAt lo hi ds k ds[k] = true) : goodTo lo hi ds (k + 1) := by
  intro i hi hik
  by_cases e : i = k
  · subst e; exact hp
  · exact h i hi (by omega)
theorem vDefs_bad {lo hi : Int} {ds : List D} {k : Nat} (hk : k < ds.length) (hp : goodAt lo hi ds k ds[k] = false) : vDefs lo hi ds = false := by
  unfold vDefs
  rw [decide_eq_false (fun h => by have := h k hk hk; rw [hp] at this; cases this)]
  rfl
theorem vDefs_end {lo hi : Int} {ds : List D} (h : goodTo lo hi ds ds.length) : vDefs lo hi ds = decide (ds.length ≤ 12) := by
  unfold vDefs; rw [decide_eq_true h]; rfl

theorem fidx_any {α : Type} (p : α → Bool) (l : List α) : decide (fidx p l < 0) = !l.any p := by
  rcases fidx_cases p l with ⟨h, hn⟩ | ⟨k, hk, h, hp, hn⟩
  · rw [h]
    have : l.any p = false := by
      rw [List.any_eq_false]
      intro x hx
      obtain ⟨i, hi, rfl⟩ := List.mem_iff_getElem.1 hx
      simp [hn i hi hi]
    rw [this]; rfl
  · rw [h]
    have : l.any p = true := List.any_eq_true.2 ⟨_, List.getElem_mem hk, hp⟩
    rw [this, decide_eq_false (by omega)]; rfl
theorem any_take_succ {α : Type} (p : α → Bool) (l : List α) (k : Nat) (h : k < l.length) : (l.take (k + 1)).any p = ((l.take k).any p || p l[k]) := by
  rw [List.take_succ_eq_append_getElem h, List.any_append]; simp
/-- The names of the first k definitions. -/
def metTo (ds : List D) (k : Nat) (s : ByteArray) : Bool := (ds.take k).any (isNm s)

/-! ### valid enumerations; names and values -/
def vEnum (ds : List D) : Bool := vDefs (-1000) 1000 ds
theorem vEnum_len {ds : List D} (h : vEnum ds = true) : ds.length ≤ 12 := by
  unfold vEnum vDefs at h; simp at h; exact h.2
theorem vEnum_good {ds : List D} (h : vEnum ds = true) : goodTo (-1000) 1000 ds ds.length := by
  unfold vEnum vDefs at h; simp at h; exact h.1
theorem vEnum_val {ds : List D} (h : vEnum ds = true) (d : D) (hd : d ∈ ds) : -1000 ≤ d.val ∧ d.val ≤ 1000 := by
  obtain ⟨i, hi, rfl⟩ := List.mem_iff_getElem.1 hd
  have := vEnum_good h i hi hi
  unfold goodAt at this; simp at this; omega
theorem vEnum_name {ds : List D} (h : vEnum ds = true) (d : D) (hd : d ∈ ds) : vName d.name = true := by
  obtain ⟨i, hi, rfl⟩ := List.mem_iff_getElem.1 hd
  have := vEnum_good h i hi hi
  unfold goodAt at this; simp at this; exact this.1.1
theorem noTo_of_none {α : Type} {p : α → Bool} {l : List α} (h : fidx p l = -1) : noTo p l l.length := by
  rcases fidx_cases p l with ⟨_, hn⟩ | ⟨k, hk, h2, _⟩
  · exact hn
  · omega
/-- The number of members among the first k: definitions that are the first with their value. -/
def memAt (ds : List D) (i : Nat) (d : D) : Bool := !(ds.take i).any (isVal d.val)
def memCnt (ds : List D) : Nat → Nat
  | 0 => 0
  | k + 1 => memCnt ds k + (match ds[k]? with | some d => if memAt ds k d then 1 else 0 | none => 0)
theorem memCnt_succ (ds : List D) (k : Nat) (h : k < ds.length) : memCnt ds (k + 1) = memCnt ds k + if memAt ds k ds[k] then 1 else 0 := by
  show memCnt ds k + _ = _
  rw [List.getElem?_eq_getElem h]
theorem memCnt_le (ds : List D) (k : Nat) : memCnt ds k ≤ k := by
  induction k with
  | zero => exact Nat.le_refl _
  | succ k ih =>
    unfold memCnt
    split
    · split <;> omega
    · omega

theorem fidx_take_succ {α : Type} (p : α → Bool) (l : List α) (k : Nat) (h : k < l.length) :
    fidx p (l.take (k + 1)) = if fidx p (l.take k) < 0 then (if p l[k] then (k : Int) else -1) else fidx p (l.take k) := by
  have e : (l.take (k + 1)).findIdx? p = ((l.take k).findIdx? p).or (if p l[k] then some k else none) := by
    rw [List.take_succ_eq_append_getElem h, List.findIdx?_append]
    congr 1
    have : (l.take k).length = k := by simp; omega
    simp only [List.findIdx?_cons, List.findIdx?_nil]
    split <;> simp [this]
  unfold fidx
  rw [e]
  cases (l.take k).findIdx? p with
  | none => by_cases hp : p l[k] <;> simp [hp]
  | some j => simp; omega
theorem memAt_iff (ds : List D) (k : Nat) (d : D) : memAt ds k d = decide (fidx (isVal d.val) (ds.take k) < 0) := by
  unfold memAt; rw [fidx_any]
theorem step_old (ds : List D) (k : Nat) (h : k < ds.length) (hx : ¬ fidx (isVal ds[k].val) (ds.take k) < 0) : (fun x => fidx (isVal x) (ds.take (k + 1))) = fun x => fidx (isVal x) (ds.take k) := by
  funext x
  rw [fidx_take_succ _ _ _ h]
  by_cases hn : fidx (isVal x) (ds.take k) < 0
  · rw [if_pos hn]
    have : isVal x ds[k] = false := by
      cases e : isVal x ds[k]
      · rfl
      · unfold isVal at e; simp at e; subst e; exact absurd hn hx
    rw [this, if_neg (by simp)]
    rcases fidx_cases (isVal x) (ds.take k) with ⟨h1, _⟩ | ⟨j, _, h1, _⟩ <;> omega
  · rw [if_neg hn]
theorem step_new (ds : List D) (k : Nat) (h : k < ds.length) (hx : fidx (isVal ds[k].val) (ds.take k) < 0) (x : Int) : fidx (isVal x) (ds.take (k + 1)) = if x = ds[k].val then (k : Int) else fidx (isVal x) (ds.take k) := by
  rw [fidx_take_succ _ _ _ h]
  by_cases e : x = ds[k].val
  · subst e
    rw [if_pos hx, if_pos rfl, if_pos (by unfold isVal; simp)]
  · rw [if_neg e]
    have : isVal x ds[k] = false := by unfold isVal; simp; exact fun h => e h.symm
    rw [this]
    by_cases hn : fidx (isVal x) (ds.take k) < 0
    · rw [if_pos hn, if_neg (by simp)]
      rcases fidx_cases (isVal x) (ds.take k) with ⟨h1, _⟩ | ⟨j, _, h1, _⟩ <;> omega
    · rw [if_neg hn]
end Go.Proofs.YtiebdhbioccogaaGreatDoor

namespace Go.Proofs.YtiebdhbioccogaaGreatDoor
open Go.RowKit
set_option linter.unusedVariables false
set_option maxRecDepth 100000

theorem ret_bool {a b : Bool} (h : a = b) : Ending.returned (.bool a) = .returned (.bool b) := by rw [h]

set_option maxHeartbeats 400000 in
theorem inRange_any (n a b : Int) (w : World) :
    Calls Tryz.prog 30 #[.int .i64 n, .int .i64 a, .int .i64 b] w fun e w' => e = .returned (.bool (decide (a ≤ n) && decide (n ≤ b))) ∧ w = w' := by
  by_cases h1 : a ≤ n <;> by_cases h2 : n ≤ b
  all_goals
    go_enter Tryz.func30, Tryz.ntmps30
    go_wp2
    go_ret
    exact ⟨ret_bool (by simp [h1, h2]), rfl⟩

set_option maxHeartbeats 400000 in
theorem implName (s : ByteArray) (w : World) (hs : s.size ≤ maxLen) :
    Calls Tryz.prog 166 #[.string s] w fun e w' => e = .returned (.bool (vName s)) ∧ w = w' := by
  unfold maxLen at hs
  by_cases h1 : s.size < 1
  · have hv : vName s = false := by unfold vName; simp; omega
    have HV := Lib.hid hv
    clear hv
    go_enter Tryz.func166, Tryz.ntmps166
    go_wp2
    go_ret
    exact ⟨ret_bool HV.out.symm, rfl⟩
  · by_cases h2 : 6 < s.size
    · have hv : vName s = false := by unfold vName; simp; omega
      have HV := Lib.hid hv
      clear hv
      go_enter Tryz.func166, Tryz.ntmps166
      go_wp2
      go_ret
      exact ⟨ret_bool HV.out.symm, rfl⟩
    · have hv : vName s = okTo s s.size := by unfold vName; simp; omega
      have HV := Lib.hid hv
      clear hv
      go_enter Tryz.func166, Tryz.ntmps166
      go_wp2
      go_loop [3] (fun i => ∃ k : Nat, k ≤ s.size ∧ i = .int .i64 k ∧ Hid (okTo s k = true)) (fun i => s.size - (intOf i).toNat)
      case atStart => exact ⟨0, Nat.zero_le _, rfl, Lib.hid (okTo_zero s)⟩
      case round =>
        obtain ⟨k, hk, rfl, hok⟩ := hrel
        by_cases hlt : k < s.size
        · have hs1 := Lib.hid (okTo_succ s k hlt)
          by_cases hlo : (s[k].toNat : Int) < 97
          · have hb := Lib.hid (okB_lt _ hlo)
            go_wp2
            go_ret
            exact ⟨ret_bool (by rw [HV.out]; exact (okTo_false s (k+1) (by rw [hs1.out, hb.out]; simp)).symm), rfl⟩
          · by_cases hhi : 122 < (s[k].toNat : Int)
            · have hb := Lib.hid (okB_gt _ hhi)
              go_wp2
              go_ret
              exact ⟨ret_bool (by rw [HV.out]; exact (okTo_false s (k+1) (by rw [hs1.out, hb.out]; simp)).symm), rfl⟩
            · have hb := Lib.hid (okB_in s[k] (by omega) (by omega))
              go_wp2
              go_round
              case rel => exact ⟨k + 1, by omega, by go_num, Lib.hid (by rw [hs1.out, hok.out, hb.out]; rfl)⟩
              case measure => simp [intOf]; omega
        · obtain rfl : k = s.size := by omega
          go_wp2
          go_ret
          exact ⟨ret_bool (by rw [HV.out]; exact hok.out.symm), rfl⟩

set_option maxHeartbeats 400000 in
theorem specName1 (s : ByteArray) (w : World) (hs : s.size ≤ maxLen) :
    Calls Tryz.prog 105 #[.string s] w fun e w' => e = .returned (.bool (vName s)) ∧ w = w' := by
  unfold maxLen at hs
  have hv : vName s = (decide ((1:Int) ≤ (s.size : Int)) && decide ((s.size : Int) ≤ 6) && okTo s s.size) := by
    unfold vName; rw [Bool.eq_iff_iff]; simp; omega
  have HV := Lib.hid hv
  clear hv
  go_enter Tryz.func105, Tryz.ntmps105
  go_wp2
  go_loop [3] (fun i => ∃ k : Nat, k ≤ s.size ∧ i = .int .i64 k ∧ Hid (okTo s k = true)) (fun i => s.size - (intOf i).toNat)
  case atStart => exact ⟨0, Nat.zero_le _, rfl, Lib.hid (okTo_zero s)⟩
  case round =>
    obtain ⟨k, hk, rfl, hok⟩ := hrel
    by_cases hlt : k < s.size
    · have hs1 := Lib.hid (okTo_succ s k hlt)
      by_cases hlo : (s[k].toNat : Int) < 97
      · have hb := Lib.hid (okB_lt _ hlo)
        go_wp2
        go_ret
        exact ⟨ret_bool (by rw [HV.out, okTo_false s (k+1) (by rw [hs1.out, hb.out]; simp)]; simp), rfl⟩
      · by_cases hhi : 122 < (s[k].toNat : Int)
        · have hb := Lib.hid (okB_gt _ hhi)
          go_wp2
          go_ret
          exact ⟨ret_bool (by rw [HV.out, okTo_false s (k+1) (by rw [hs1.out, hb.out]; simp)]; simp), rfl⟩
        · have hb := Lib.hid (okB_in s[k] (by omega) (by omega))
          go_wp2
          go_round
          case rel => exact ⟨k + 1, by omega, by go_num, Lib.hid (by rw [hs1.out, hok.out, hb.out]; rfl)⟩
          case measure => simp [intOf]; omega
    · obtain rfl : k = s.size := by omega
      go_wp2_with (go_at_call 30; refine (inRange_any _ _ _ _).mono ?_; rintro e w' ⟨rfl, rfl⟩)
      go_ret
      exact ⟨ret_bool (by rw [HV.out, hok.out]; simp), rfl⟩

theorem inRange_v (n a b : Int) (w : World) {v : Bool} (hv : (decide (a ≤ n) && decide (n ≤ b)) = v) :
    Calls Tryz.prog 30 #[.int .i64 n, .int .i64 a, .int .i64 b] w fun e w' => e = .returned (.bool v) ∧ w = w' := hv ▸ inRange_any n a b w
theorem specName_v (s : ByteArray) (w : World) (hs : s.size ≤ maxLen) {v : Bool} (hv : vName s = v) :
    Calls Tryz.prog 105 #[.string s] w fun e w' => e = .returned (.bool v) ∧ w = w' := hv ▸ specName1 s w hs
theorem implName_v (s : ByteArray) (w : World) (hs : s.size ≤ maxLen) {v : Bool} (hv : vName s = v) :
    Calls Tryz.prog 166 #[.string s] w fun e w' => e = .returned (.bool v) ∧ w = w' := hv ▸ implName s w hs
end Go.Proofs.YtiebdhbioccogaaGreatDoor

/-
Slices of flat structs that read as lists: 'Rd w B sz enc A xs': the slice at address A holds the elements xs, each of sz cells, in a block below B.
-/
namespace Go.Proofs.YtiebdhbioccogaaGreatDoor
open Go.RowKit
set_option linter.unusedVariables false
set_option maxRecDepth 100000

def Rd {α : Type} (w : World) (B sz : Nat) (enc : α → List Value) (A : Option Addr) (xs : List α) : Prop :=
  xs = [] ∨ ∃ b o, A = some ⟨b, o, none⟩ ∧ b < B ∧ ∀ i x, xs[i]? = some x → ∀ j v, (enc x)[j]? = some v → w.cell? ⟨b, o + i * sz + j, none⟩ = some v

section
variable {α : Type} {w w' : World} {B B' sz : Nat} {enc : α → List Value} {A : Option Addr} {xs : List α}
theorem Rd.nil_ : Rd w B sz enc A ([] : List α) := .inl rfl
theorem Rd.at_ (h : Rd w B sz enc A xs) {k : Nat} (hk : k < xs.length) :
    ∃ b o, A = some ⟨b, o, none⟩ ∧ b < B ∧ ∀ j v, (enc xs[k])[j]? = some v → w.cell? ⟨b, o + k * sz + j, none⟩ = some v := by
  rcases h with rfl | ⟨b, o, hA, hb, hc⟩
  · simp at hk
  · exact ⟨b, o, hA, hb, fun j v hj => hc k _ (List.getElem?_eq_getElem hk) j v hj⟩
theorem Rd.keep (h : Rd w B sz enc A xs) (hk : ∀ p : Addr, p.block < B → w'.cell? p = w.cell? p) : Rd w' B sz enc A xs := by
  rcases h with rfl | ⟨b, o, hA, hb, hc⟩
  · exact .inl rfl
  · exact .inr ⟨b, o, hA, hb, fun i x hi j v hj => (hk ⟨b, o + i * sz + j, none⟩ hb).trans (hc i x hi j v hj)⟩
theorem Rd.more (h : Rd w B sz enc A xs) (hB : B ≤ B') : Rd w B' sz enc A xs := by
  rcases h with rfl | ⟨b, o, hA, hb, hc⟩
  · exact .inl rfl
  · exact .inr ⟨b, o, hA, by omega, hc⟩
theorem Rd.below (h : Rd w B sz enc A xs) (hb : Below B w w') : Rd w' B sz enc A xs := h.keep fun p hp => hb.cell hp
theorem Rd.below' {B0 : Nat} (h : Rd w B sz enc A xs) (hb : Below B0 w w') (hB : B ≤ B0) : Rd w' B sz enc A xs := h.keep fun p hp => hb.cell (by omega)
theorem Rd.alloc (h : Rd w B sz enc A xs) (hB : B ≤ w.heap.size) (o : Obj) : Rd (w.alloc o) B sz enc A xs := h.keep fun p hp => World.cell?_alloc_lt w o p (by omega)
theorem Rd.drew (h : Rd w B sz enc A xs) : Rd w.drew B sz enc A xs := h
theorem Rd.drewN (h : Rd w B sz enc A xs) (k : Nat) : Rd (w.drewN k) B sz enc A xs := h
theorem Rd.take_ (h : Rd w B sz enc A xs) (k : Nat) : Rd w B sz enc A (xs.take k) := by
  rcases h with rfl | ⟨b, o, hA, hb, hc⟩
  · exact .inl (by simp)
  · refine .inr ⟨b, o, hA, hb, fun i x hi j v hj => hc i x ?_ j v hj⟩
    rw [List.getElem?_take] at hi
    split at hi
    · exact hi
    · cases hi
theorem Rd.setCell (h : Rd w B sz enc A xs) {p : Addr} (hB : B ≤ p.block) (u : Value) : Rd (w.setCell p u) B sz enc A xs :=
  h.keep fun q hq => World.cell?_setCell_other w p q u (fun e => by subst e; omega)
end

theorem nm_true {a b : ByteArray} (h : a = b) : (a.toList == b.toList) = true := by subst h; simp
theorem nm_inj {a b : ByteArray} (h : a.toList = b.toList) : a = b := by
  rw [Go.ByteArray.toList_eq, Go.ByteArray.toList_eq] at h
  exact ByteArray.ext (Array.toList_inj.1 h)
theorem nm_false {a b : ByteArray} (h : ¬ a = b) : (a.toList == b.toList) = false := by
  rw [beq_eq_false_iff_ne]
  exact fun e => h (nm_inj e)
theorem isNm_iff {s : ByteArray} {d : D} : isNm s d = true ↔ d.name = s := by
  unfold isNm; rw [beq_iff_eq]; exact ⟨nm_inj, fun h => by rw [h]⟩
def encD (d : D) : List Value := [.string d.name, .int .i64 d.val]
def encS (s : ByteArray) : List Value := [.string s]
def encI (n : Int) : List Value := [.int .i64 n]
/-- What is so of each definition that was read: its name is a string's length, its value an int64. -/
def D.ok (d : D) : Prop := d.name.size ≤ maxLen ∧ -9223372036854775808 ≤ d.val ∧ d.val ≤ 9223372036854775807
def RdD (w : World) (B : Nat) (A : Option Addr) (ds : List D) : Prop := Rd w B 2 encD A ds

theorem RdD.at_ {w : World} {B : Nat} {A : Option Addr} {ds : List D} (h : RdD w B A ds) {k : Nat} (hk : k < ds.length) :
    ∃ b o, A = some ⟨b, o, none⟩ ∧ b < B ∧ w.cell? ⟨b, o + k * 2, none⟩ = some (.string ds[k].name) ∧ w.cell? ⟨b, o + k * 2 + 1, none⟩ = some (.int .i64 ds[k].val) := by
  obtain ⟨b, o, hA, hb, hc⟩ := Rd.at_ h hk
  exact ⟨b, o, hA, hb, hc 0 _ rfl, hc 1 _ rfl⟩

/-- The slice A, n, c holds the definitions ds, below block B. -/
structure SD (w : World) (B : Nat) (A : Option Addr) (n c : Nat) (ds : List D) : Prop where
  rd : RdD w B A ds
  len : ds.length = n
  cap : n ≤ c
  max : c ≤ maxLen
  ok : ∀ d ∈ ds, d.ok
section
variable {w w' : World} {B B' : Nat} {A : Option Addr} {n c : Nat} {ds : List D}
theorem SD.keep (h : SD w B A n c ds) (hk : RdD w B A ds → RdD w' B' A ds) : SD w' B' A n c ds := ⟨hk h.rd, h.len, h.cap, h.max, h.ok⟩
theorem SD.below (h : SD w B A n c ds) (hb : Below B w w') : SD w' B A n c ds := h.keep fun r => Rd.below r hb
theorem SD.below' {B0 : Nat} (h : SD w B A n c ds) (hb : Below B0 w w') (hB : B ≤ B0) : SD w' B A n c ds := h.keep fun r => Rd.below' r hb hB
theorem SD.more (h : SD w B A n c ds) (hB : B ≤ B') : SD w B' A n c ds := h.keep fun r => Rd.more r hB
theorem SD.drew (h : SD w B A n c ds) : SD w.drew B A n c ds := h.keep fun r => Rd.drew r
theorem SD.drewN (h : SD w B A n c ds) (k : Nat) : SD (w.drewN k) B A n c ds := h.keep fun r => Rd.drewN r k
theorem SD.alloc (h : SD w B A n c ds) (hB : B ≤ w.heap.size) (o : Obj) : SD (w.alloc o) B A n c ds := h.keep fun r => Rd.alloc r hB o
theorem SD.take_ (h : SD w B A n c ds) (k : Nat) (hk : k ≤ n) : SD w B A k c (ds.take k) :=
  ⟨Rd.take_ h.rd k, by have := h.len; simp; omega, by have := h.cap; omega, h.max, fun d hd => h.ok d (List.mem_of_mem_take hd)⟩
/-- .. for a call: in a world at least as great. -/
theorem SD.call (h : SD w B A n c ds) (hB : B ≤ w.heap.size) : SD w w.heap.size A n c ds := h.more hB
theorem SD.at_ (h : SD w B A n c ds) {k : Nat} (hk : k < ds.length) :
    ∃ b o, A = some ⟨b, o, none⟩ ∧ b < B ∧ w.cell? ⟨b, o + k * 2, none⟩ = some (.string ds[k].name) ∧ w.cell? ⟨b, o + k * 2 + 1, none⟩ = some (.int .i64 ds[k].val) := h.rd.at_ hk
end

/-- The slice A, n, c holds the texts ss, below block B. -/
structure SS (w : World) (B : Nat) (A : Option Addr) (n c : Nat) (ss : List ByteArray) : Prop where
  rd : Rd w B 1 encS A ss
  len : ss.length = n
  cap : n ≤ c
  max : c ≤ maxLen
  ok : ∀ s ∈ ss, s.size ≤ maxLen
section
variable {w w' : World} {B B' : Nat} {A : Option Addr} {n c : Nat} {ds : List ByteArray}
theorem SS.keep (h : SS w B A n c ds) (hk : Rd w B 1 encS A ds → Rd w' B' 1 encS A ds) : SS w' B' A n c ds := ⟨hk h.rd, h.len, h.cap, h.max, h.ok⟩
theorem SS.below (h : SS w B A n c ds) (hb : Below B w w') : SS w' B A n c ds := h.keep fun r => Rd.below r hb
theorem SS.below' {B0 : Nat} (h : SS w B A n c ds) (hb : Below B0 w w') (hB : B ≤ B0) : SS w' B A n c ds := h.keep fun r => Rd.below' r hb hB
theorem SS.more (h : SS w B A n c ds) (hB : B ≤ B') : SS w B' A n c ds := h.keep fun r => Rd.more r hB
theorem SS.drew (h : SS w B A n c ds) : SS w.drew B A n c ds := h.keep fun r => Rd.drew r
theorem SS.drewN (h : SS w B A n c ds) (k : Nat) : SS (w.drewN k) B A n c ds := h.keep fun r => Rd.drewN r k
theorem SS.alloc (h : SS w B A n c ds) (hB : B ≤ w.heap.size) (o : Obj) : SS (w.alloc o) B A n c ds := h.keep fun r => Rd.alloc r hB o
theorem SS.call (h : SS w B A n c ds) (hB : B ≤ w.heap.size) : SS w w.heap.size A n c ds := h.more hB
theorem SS.at_ (h : SS w B A n c ds) {k : Nat} (hk : k < ds.length) : ∃ b o, A = some ⟨b, o, none⟩ ∧ b < B ∧ w.cell? ⟨b, o + k, none⟩ = some (.string ds[k]) := by
  obtain ⟨b, o, hA, hb, hc⟩ := Rd.at_ h.rd hk
  exact ⟨b, o, hA, hb, by simpa using hc 0 _ rfl⟩
end
/-- The slice A, n, c holds the numbers ss, below block B. -/
structure SI (w : World) (B : Nat) (A : Option Addr) (n c : Nat) (ss : List Int) : Prop where
  rd : Rd w B 1 encI A ss
  len : ss.length = n
  cap : n ≤ c
  max : c ≤ maxLen
  ok : ∀ s ∈ ss, -9223372036854775808 ≤ s ∧ s ≤ 9223372036854775807
section
variable {w w' : World} {B B' : Nat} {A : Option Addr} {n c : Nat} {ds : List Int}
theorem SI.keep (h : SI w B A n c ds) (hk : Rd w B 1 encI A ds → Rd w' B' 1 encI A ds) : SI w' B' A n c ds := ⟨hk h.rd, h.len, h.cap, h.max, h.ok⟩
theorem SI.below (h : SI w B A n c ds) (hb : Below B w w') : SI w' B A n c ds := h.keep fun r => Rd.below r hb
theorem SI.below' {B0 : Nat} (h : SI w B A n c ds) (hb : Below B0 w w') (hB : B ≤ B0) : SI w' B A n c ds := h.keep fun r => Rd.below' r hb hB
theorem SI.more (h : SI w B A n c ds) (hB : B ≤ B') : SI w B' A n c ds := h.keep fun r => Rd.more r hB
theorem SI.drew (h : SI w B A n c ds) : SI w.drew B A n c ds := h.keep fun r => Rd.drew r
theorem SI.drewN (h : SI w B A n c ds) (k : Nat) : SI (w.drewN k) B A n c ds := h.keep fun r => Rd.drewN r k
theorem SI.alloc (h : SI w B A n c ds) (hB : B ≤ w.heap.size) (o : Obj) : SI (w.alloc o) B A n c ds := h.keep fun r => Rd.alloc r hB o
theorem SI.call (h : SI w B A n c ds) (hB : B ≤ w.heap.size) : SI w w.heap.size A n c ds := h.more hB
theorem SI.at_ (h : SI w B A n c ds) {k : Nat} (hk : k < ds.length) : ∃ b o, A = some ⟨b, o, none⟩ ∧ b < B ∧ w.cell? ⟨b, o + k, none⟩ = some (.int .i64 ds[k]) := by
  obtain ⟨b, o, hA, hb, hc⟩ := Rd.at_ h.rd hk
  exact ⟨b, o, hA, hb, by simpa using hc 0 _ rfl⟩
end
end Go.Proofs.YtiebdhbioccogaaGreatDoor

namespace Go.Proofs.YtiebdhbioccogaaGreatDoor
open Go.RowKit
set_option linter.unusedVariables false
set_option maxRecDepth 100000
theorem ret_int {a b : Int} (h : a = b) : Ending.returned (.int .i64 a) = .returned (.int .i64 b) := by rw [h]


theorem quiet_eq {P : Program} {f : FuncId} {args : Array Value} {w : World} {n : Nat} {v : Value}
    (h : Calls P f args (w.drewN n) fun e w' => e = .returned v ∧ w.drewN n = w') : Calls P f args (w.drewN n) fun e w'' => e = .returned v ∧ ∃ m, w'' = w.drewN m :=
  h.mono fun _ _ ⟨he, hm⟩ => ⟨he, n, hm.symm⟩

set_option maxHeartbeats 400000 in
theorem indexOf_any (ds : List D) (s : ByteArray) (A : Option Addr) (c n : Nat) (w : World) (hr : SD w w.heap.size A n c ds) :
    Calls Tryz.prog 107 #[.slice A n c, .string s] w fun e w' => e = .returned (.int .i64 (fidx (isNm s) ds)) ∧ w = w' := by
  obtain rfl := hr.len
  have hl := hr.max
  have hl2 := hr.cap
  unfold maxLen at hl
  have HR := Lib.hid hr
  clear hr
  go_enter Tryz.func107, Tryz.ntmps107
  go_wp2
  go_loop [5] (fun i => ∃ k : Nat, k ≤ ds.length ∧ i = .int .i64 k ∧ Hid (noTo (isNm s) ds k)) (fun i => ds.length - (intOf i).toNat)
  case atStart => exact ⟨0, Nat.zero_le _, rfl, Lib.hid (noTo_zero _ _)⟩
  case round =>
    obtain ⟨k, hk, rfl, hok⟩ := hrel
    by_cases hlt : k < ds.length
    · obtain ⟨b, o, rfl, hb, c1, c2⟩ := HR.out.at_ hlt
      cases hp : isNm s ds[k]
      · have hp1 : (ds[k].name.toList == s.toList) = false := hp
        have HP := Lib.hid hp
        clear hp
        go_wp2
        go_round
        case rel => exact ⟨k + 1, by omega, by go_num, Lib.hid (noTo_succ hok.out hlt HP.out)⟩
        case measure => simp [intOf]; omega
      · have hp1 : (ds[k].name.toList == s.toList) = true := hp
        have HP := Lib.hid hp
        clear hp
        go_wp2
        go_ret
        exact ⟨ret_int (fidx_some hok.out hlt HP.out).symm, rfl⟩
    · obtain rfl : k = ds.length := by omega
      go_wp2
      go_ret
      exact ⟨ret_int (fidx_none hok.out).symm, rfl⟩

set_option maxHeartbeats 400000 in
theorem valueAt_any (ds : List D) (x : Int) (A : Option Addr) (c n : Nat) (w : World) (hr : SD w w.heap.size A n c ds) :
    Calls Tryz.prog 136 #[.slice A n c, .int .i64 x] w fun e w' => e = .returned (.int .i64 (fidx (isVal x) ds)) ∧ w = w' := by
  obtain rfl := hr.len
  have hl := hr.max
  have hl2 := hr.cap
  unfold maxLen at hl
  have HR := Lib.hid hr
  clear hr
  go_enter Tryz.func136, Tryz.ntmps136
  go_wp2
  go_loop [5] (fun i => ∃ k : Nat, k ≤ ds.length ∧ i = .int .i64 k ∧ Hid (noTo (isVal x) ds k)) (fun i => ds.length - (intOf i).toNat)
  case atStart => exact ⟨0, Nat.zero_le _, rfl, Lib.hid (noTo_zero _ _)⟩
  case round =>
    obtain ⟨k, hk, rfl, hok⟩ := hrel
    by_cases hlt : k < ds.length
    · obtain ⟨b, o, rfl, hb, c1, c2⟩ := HR.out.at_ hlt
      cases hp : isVal x ds[k]
      · have hp1 : (ds[k].val == x) = false := hp
        have HP := Lib.hid hp
        clear hp
        go_wp2
        go_round
        case rel => exact ⟨k + 1, by omega, by go_num, Lib.hid (noTo_succ hok.out hlt HP.out)⟩
        case measure => simp [intOf]; omega
      · have hp1 : (ds[k].val == x) = true := hp
        have HP := Lib.hid hp
        clear hp
        go_wp2
        go_ret
        exact ⟨ret_int (fidx_some hok.out hlt HP.out).symm, rfl⟩
    · obtain rfl : k = ds.length := by omega
      go_wp2
      go_ret
      exact ⟨ret_int (fidx_none hok.out).symm, rfl⟩
theorem indexOf_v (ds : List D) (s : ByteArray) (A : Option Addr) (c n : Nat) (w : World) (hr : SD w w.heap.size A n c ds) {v : Int} (hv : fidx (isNm s) ds = v) :
    Calls Tryz.prog 107 #[.slice A n c, .string s] w fun e w' => e = .returned (.int .i64 v) ∧ w = w' := hv ▸ indexOf_any ds s A c n w hr
theorem valueAt_v (ds : List D) (x : Int) (A : Option Addr) (c n : Nat) (w : World) (hr : SD w w.heap.size A n c ds) {v : Int} (hv : fidx (isVal x) ds = v) :
    Calls Tryz.prog 136 #[.slice A n c, .int .i64 x] w fun e w' => e = .returned (.int .i64 v) ∧ w = w' := hv ▸ valueAt_any ds x A c n w hr

set_option maxHeartbeats 1000000 in
theorem validDefs_any (ds : List D) (lo hi : Int) (A : Option Addr) (c n : Nat) (w : World) (hr : SD w w.heap.size A n c ds) :
    Calls Tryz.prog 106 #[.slice A n c, .int .i64 lo, .int .i64 hi] w fun e w' => e = .returned (.bool (vDefs lo hi ds)) ∧ ∃ n, w' = w.drewN n := by
  obtain rfl := hr.len
  have hl := hr.max
  have hl2 := hr.cap
  unfold maxLen at hl
  have HR := Lib.hid hr
  clear hr
  go_enter Tryz.func106, Tryz.ntmps106
  go_wp2
  go_loopw [7] (fun i wr => ∃ k : Nat, k ≤ ds.length ∧ i = .int .i64 k ∧ Hid (goodTo lo hi ds k) ∧ Hid (∃ n, wr = w.drewN n)) (fun i _ => ds.length - (intOf i).toNat)
  case atStart => exact ⟨0, Nat.zero_le _, rfl, Lib.hid (goodTo_zero _ _ _), Lib.hid ⟨0, rfl⟩⟩
  case round =>
    obtain ⟨k, hk, rfl, hok, hwn⟩ := hrel
    have HRr : Hid (SD wr w.heap.size A ds.length c ds) := Lib.hid (by obtain ⟨n, rfl⟩ := hwn.out; exact HR.out.drewN n)
    have HQ : ∀ m, Hid (∃ n, wr.drewN m = w.drewN n) := fun m => Lib.hid (by obtain ⟨n, rfl⟩ := hwn.out; exact ⟨_, World.drewN_drewN _ _ _⟩)
    have HB : Hid (w.heap.size = wr.heap.size) := Lib.hid (by obtain ⟨n, rfl⟩ := hwn.out; rfl)
    by_cases hlt : k < ds.length
    · obtain ⟨b, o, rfl, hb, c1, c2⟩ := HRr.out.at_ hlt
      have HN := Lib.hid (HR.out.ok _ (List.getElem_mem hlt)).1
      have HT : Hid (∀ m, SD (wr.drewN m) (wr.drewN m).heap.size (some ⟨b, o, none⟩) k c (ds.take k)) := Lib.hid (fun m => by rw [World.heap_drewN, ← HB.out]; exact (HRr.out.take_ k (by omega)).drewN m)
      have HG : Hid (goodAt lo hi ds k ds[k] = (vName ds[k].name && (decide (lo ≤ ds[k].val) && decide (ds[k].val ≤ hi)) && decide (fidx (isNm ds[k].name) (ds.take k) < 0))) := Lib.hid rfl
      have hi1 : (k : Int) < (ds.length : Int) := by omega
      have hi2 : (k : Int) ≤ (c : Int) := by omega
      cases hv : vName ds[k].name
      · have H1 := Lib.hid hv
        clear hv
        go_wp2
        go_quiet ((first | (go_at_call 105; exact quiet_eq (specName_v _ _ HN.out H1.out))))
        go_wp2
        go_ret
        exact ⟨ret_bool (vDefs_bad hlt (by rw [HG.out, H1.out]; rfl)).symm, (HQ _).out⟩
      · have H1 := Lib.hid hv
        clear hv
        cases hv2 : (decide (lo ≤ ds[k].val) && decide (ds[k].val ≤ hi))
        · have H2 := Lib.hid hv2
          clear hv2
          go_wp2
          go_quiet ((first | (go_at_call 105; exact quiet_eq (specName_v _ _ HN.out H1.out)) | (go_at_call 30; exact quiet_eq (inRange_v _ _ _ _ H2.out))))
          go_wp2
          go_ret
          exact ⟨ret_bool (vDefs_bad hlt (by rw [HG.out, H1.out, H2.out]; rfl)).symm, (HQ _).out⟩
        · have H2 := Lib.hid hv2
          clear hv2
          rcases fidx_cases (isNm ds[k].name) (ds.take k) with ⟨hx, _⟩ | ⟨j, _, hx, _, _⟩
          · have H3 := Lib.hid hx
            clear hx
            go_wp2
            go_quiet ((first | (go_at_call 105; exact quiet_eq (specName_v _ _ HN.out H1.out)) | (go_at_call 30; exact quiet_eq (inRange_v _ _ _ _ H2.out)) | (go_at_call 107; exact quiet_eq (indexOf_v (ds.take k) _ _ _ _ _ (HT.out _) H3.out))))
            go_wp2
            go_roundw
            case rel => exact ⟨k + 1, by omega, by go_num, Lib.hid (goodTo_succ hok.out hlt (by rw [HG.out, H1.out, H2.out, H3.out]; rfl)), HQ _⟩
            case measure => simp [intOf]; omega
          · have H3 := Lib.hid hx
            clear hx
            go_wp2
            go_quiet ((first | (go_at_call 105; exact quiet_eq (specName_v _ _ HN.out H1.out)) | (go_at_call 30; exact quiet_eq (inRange_v _ _ _ _ H2.out)) | (go_at_call 107; exact quiet_eq (indexOf_v (ds.take k) _ _ _ _ _ (HT.out _) H3.out))))
            go_wp2
            go_ret
            exact ⟨ret_bool (vDefs_bad hlt (by rw [HG.out, H1.out, H2.out, H3.out]; simp)).symm, (HQ _).out⟩
    · obtain rfl : k = ds.length := by omega
      have HE := Lib.hid (vDefs_end hok.out)
      by_cases h12 : ds.length ≤ 12
      all_goals
        go_wp2
        go_ret
        exact ⟨ret_bool (by rw [HE.out]; simp [h12]; omega), hwn.out⟩
end Go.Proofs.YtiebdhbioccogaaGreatDoor

namespace Go.Proofs.YtiebdhbioccogaaGreatDoor
open Go.RowKit
set_option linter.unusedVariables false
set_option maxRecDepth 100000

/-! ### the model's ValidEnum -/

end Go.Proofs.YtiebdhbioccogaaGreatDoor

namespace Go.Proofs.YtiebdhbioccogaaGreatDoor
open Go.RowKit
set_option linter.unusedVariables false
set_option maxRecDepth 100000

def flat (ds : List D) : List Value := ds.flatMap encD
theorem flat_length (ds : List D) : (flat ds).length = ds.length * 2 := by
  induction ds with
  | nil => rfl
  | cons d r ih => unfold flat at *; simp [encD, ih]; omega
theorem flat_get (ds : List D) (i : Nat) (h : i < ds.length) : (flat ds)[i * 2]? = some (.string ds[i].name) ∧ (flat ds)[i * 2 + 1]? = some (.int .i64 ds[i].val) := by
  induction ds generalizing i with
  | nil => simp at h
  | cons d r ih =>
    have e : flat (d :: r) = .string d.name :: .int .i64 d.val :: flat r := by simp [flat, encD]
    rw [e]
    cases i with
    | zero => simp
    | succ i =>
      have := ih i (by simpa using h)
      rw [show (i + 1) * 2 = i * 2 + 1 + 1 from by omega, show i * 2 + 1 + 1 + 1 = (i * 2 + 1) + 1 + 1 from rfl]
      simpa using this
theorem flat_snoc (ds : List D) (k : Nat) (h : k < ds.length) : flat (ds.take (k + 1)) = flat (ds.take k) ++ [.string ds[k].name, .int .i64 ds[k].val] := by
  unfold flat
  rw [List.take_succ_eq_append_getElem h, List.flatMap_append]
  simp only [List.flatMap_cons, List.flatMap_nil, List.append_nil]
  rfl

theorem flat_set_name (ds : List D) (k : Nat) (hk : k < ds.length) (s : ByteArray) : (flat ds).set (k * 2) (.string s) = flat (ds.set k ⟨s, ds[k].val⟩) := by
  induction ds generalizing k with
  | nil => simp at hk
  | cons d r ih =>
    have e : ∀ d r, flat (d :: r) = .string d.name :: .int .i64 d.val :: flat r := fun d r => by simp [flat, encD]
    cases k with
    | zero => simp [e]
    | succ k =>
      have := ih k (by simpa using hk)
      rw [show (k + 1) * 2 = k * 2 + 1 + 1 from by omega]
      simp [e, this]
theorem flat_set_val (ds : List D) (k : Nat) (hk : k < ds.length) (v : Int) : (flat ds).set (k * 2 + 1) (.int .i64 v) = flat (ds.set k ⟨ds[k].name, v⟩) := by
  induction ds generalizing k with
  | nil => simp at hk
  | cons d r ih =>
    have e : ∀ d r, flat (d :: r) = .string d.name :: .int .i64 d.val :: flat r := fun d r => by simp [flat, encD]
    cases k with
    | zero => simp [e]
    | succ k =>
      have := ih k (by simpa using hk)
      rw [show (k + 1) * 2 + 1 = k * 2 + 1 + 1 + 1 from by omega]
      simp [e, this]

theorem info_D : (Tryz.prog.info? 108).map (fun i => (i.zero, i.size, i.bytes)) = some (some (.agg #[.string ByteArray.empty, .int .i64 0]), 2, 24) := by kernel_rfl

theorem own_below {w w' : World} {base : Nat} {e : TypeId} {sz : Nat} {v : Value} {n : Nat} {xs : List Value} (h : w.ownsRow base e sz v n xs) (hb : Below w.heap.size w w') : w'.ownsRow base e sz v n xs := by
  refine ⟨h.1, ?_⟩
  rcases h.2 with hn | ⟨g, cap, cur, rfl, h1, hg, rest⟩
  · exact .inl hn
  · exact .inr ⟨g, cap, cur, rfl, h1, (hb.block g (Array.getElem?_eq_some_iff.1 hg).1).trans hg, rest⟩

/-- An owned row of definitions reads as a slice of them. -/
theorem sd_of_own {w : World} {base n c : Nat} {A : Option Addr} {e : TypeId} {ds : List D} (h : w.ownsRow base e 2 (.slice A n c) n (flat ds)) (hok : ∀ d ∈ ds, d.ok) : SD w w.heap.size A n c ds := by
  have hl : ds.length = n := by have := h.1; rw [flat_length] at this; omega
  rcases h.2 with ⟨h1, h2⟩ | ⟨g, cap, cur, h1, hb, hg, hc, hm, hs, ht⟩
  · injection h1 with e1 e2 e3
    exact ⟨.inl (List.eq_nil_of_length_eq_zero (by omega)), hl, by omega, by subst e3; unfold maxLen; omega, hok⟩
  · injection h1 with e1 e2 e3
    subst e1 e3
    refine ⟨.inr ⟨g, 0, rfl, (Array.getElem?_eq_some_iff.1 hg).1, fun i x hi j v hj => ?_⟩, hl, hc, hm, hok⟩
    obtain ⟨hil, rfl⟩ := List.getElem?_eq_some_iff.1 hi
    obtain ⟨q1, q2⟩ := flat_get ds i hil
    have hc : ∀ j, j < n * 2 → w.cell? ⟨g, j, none⟩ = (flat ds)[j]? := fun j hj => h.cellAt j hj
    match j, hj with
    | 0, hj =>
      simp [encD] at hj
      subst hj
      rw [show 0 + i * 2 + 0 = i * 2 from by omega, hc _ (by omega)]
      exact q1
    | 1, hj =>
      simp [encD] at hj
      subst hj
      rw [show 0 + i * 2 + 1 = i * 2 + 1 from by omega, hc _ (by omega)]
      exact q2
    | j + 2, hj => simp [encD] at hj

theorem own_cell {w : World} {base g n cap sz : Nat} {e : TypeId} {xs : List Value} (h : w.ownsRow base e sz (.slice (some ⟨g, 0, none⟩) n cap) n xs) (j : Nat) (hj : j < n * sz) : ∃ y, w.cell? ⟨g, j, none⟩ = some y :=
  ⟨xs[j]'(by rw [h.1]; exact hj), by rw [h.cellAt j hj]; exact List.getElem?_eq_getElem _⟩

theorem take_two {xs : List Value} {k : Nat} {a b : Value} {ys : List Value} (h : xs.take (k * 2) = ys) (hk : k * 2 + 1 < xs.length) : ((xs.set (k * 2) a).set (k * 2 + 1) b).take ((k + 1) * 2) = ys ++ [a, b] := by
  have e : (k + 1) * 2 = k * 2 + 1 + 1 := by omega
  have h1 : k * 2 < xs.length := by omega
  rw [e, List.take_succ_eq_append_getElem (by simp; omega), List.take_succ_eq_append_getElem (by simp; omega)]
  rw [List.take_set_of_le (by omega), List.take_set_of_le (by omega), h]
  simp


theorem own_base {w : World} {base base' : Nat} {e : TypeId} {sz : Nat} {v : Value} {n : Nat} {xs : List Value} (h : w.ownsRow base e sz v n xs) (hb : base' ≤ base) : w.ownsRow base' e sz v n xs := by
  refine ⟨h.1, ?_⟩
  rcases h.2 with hn | ⟨g, cap, cur, rfl, h1, rest⟩
  · exact .inl hn
  · exact .inr ⟨g, cap, cur, rfl, by omega, rest⟩

theorem bcell {W w1 : World} (hb : Below W.heap.size W w1) : (∀ b o, b < W.heap.size → w1.cell? ⟨b, o, none⟩ = W.cell? ⟨b, o, none⟩) ∧ (∀ b o, b < W.heap.size → w1.frozen? ⟨b, o, none⟩ = W.frozen? ⟨b, o, none⟩) :=
  ⟨fun b o h => hb.cell (p := ⟨b, o, none⟩) h, fun b o h => hb.frozen (p := ⟨b, o, none⟩) h⟩

theorem own_setCell {w : World} {base : Nat} {e : TypeId} {sz : Nat} {v : Value} {n : Nat} {xs : List Value} (h : w.ownsRow base e sz v n xs) {p : Addr} (hp : v.ownBlock ≠ some p.block) (u : Value) : (w.setCell p u).ownsRow base e sz v n xs := by
  refine ⟨h.1, ?_⟩
  rcases h.2 with hn | ⟨g, cap, cur, rfl, h1, hg, rest⟩
  · exact .inl hn
  · exact .inr ⟨g, cap, cur, rfl, h1, (Below.heap_setCell w p u g (fun e => hp (by simp [Value.ownBlock, e]))).trans hg, rest⟩

theorem undrew {w w' : World} (h : Below w.drew.heap.size w.drew w') : Below w.heap.size w w' := ⟨h.os, h.tape, h.output, h.size, h.block⟩
theorem keep1 {W w1 : World} (hb : Below W.heap.size W w1) {b o : Nat} {v : Value} (h : W.cell? ⟨b, o, none⟩ = some v) : w1.cell? ⟨b, o, none⟩ = some v :=
  (hb.cell (p := ⟨b, o, none⟩) (World.block_lt_of_cell? _ _ h)).trans h
/-- A fresh copy of definitions: an owned row in new memory. -/
def CopyP (n : Nat) (ds : List D) (w : World) (e : Ending) (w' : World) : Prop :=
  ∃ g, e = .returned (.agg #[.slice (some ⟨g, 0, none⟩) n n]) ∧ w'.ownsRow w.heap.size 108 2 (.slice (some ⟨g, 0, none⟩) n n) n (flat ds) ∧ Below w.heap.size w w'

end Go.Proofs.YtiebdhbioccogaaGreatDoor

