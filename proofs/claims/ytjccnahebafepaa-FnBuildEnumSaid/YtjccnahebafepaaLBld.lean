import Derived.Test.YtjccnahebafepaaGenI
import Derived.Test.YtjccnahebafepaaBldE
import Derived.Test.YtjccnahebafepaaOpenC
namespace Go.Proofs.Ytjccnahebafepaa
open Go.RowKit
set_option linter.unusedVariables false

/-- Drawn items. -/
def DrawT (w : World) (e : Ending) (w' : World) : Prop :=
  ∃ (A : Option Addr) (c : Nat) (ts : List It), e = .returned (.slice A ts.length c) ∧ ts.length ≤ 12 ∧ (∀ t ∈ ts, t.small) ∧ ST w' w'.heap.size A ts.length c ts ∧ Below w.heap.size w w'

set_option maxHeartbeats 1000000 in
theorem drawBuildEnum_any (A : Option Addr) (n c : Nat) (zs : List Int) (w : World) (h : SB w w.heap.size A n c zs) :
    Calls Try.prog 24 #[.slice A n c] w (DrawT w) := by
  have HS := Lib.hid h
  clear h
  go_enter Try.func24, Try.ntmps24
  go_wp2_with fail
  refine (newReader_any A n c zs _ HS.out).mono ?_
  rintro e w1 ⟨R, A1, cb, z1, rfl, hR, hr, hb⟩
  have HB := Lib.hid hb
  have HR := Lib.hid hr
  clear hr hb
  go_wp2_with fail
  refine (someItems_any R _ A1 cb z1 0 _ HR.out (by omega)).mono ?_
  rintro e w2 ⟨A', c', ts, p', rfl, hn, hsm, hown, hp', hg, hr⟩
  have HG := Lib.hid hg
  have HO := Lib.hid hown
  have HSM := Lib.hid hsm
  clear hg hr hown hsm
  go_wp2
  go_ret
  exact ⟨A', c', ts, rfl, hn, HSM.out, st_of_own HO.out (fun t ht => It.small_ok (HSM.out t ht)), HB.out.grown HG.out HB.out.size (fun k hk => by cases hk; exact hR)⟩

set_option maxHeartbeats 1000000 in
theorem equalDefs_any (ds : List D) (A A2 : Option Addr) (c c2 n n2 : Nat) (w : World) (hr : SD w w.heap.size A n c ds) (hr2 : SD w w.heap.size A2 n2 c2 ds) :
    Calls Try.prog 64 #[.slice A n c, .slice A2 n2 c2] w fun e w' => e = .returned (.bool true) ∧ Below w.heap.size w w' := by
  obtain rfl := hr.len
  obtain rfl := hr2.len
  have hl := hr.max
  have hl2 := hr.cap
  unfold maxLen at hl
  have HR := Lib.hid hr
  have HR2 := Lib.hid hr2
  clear hr hr2
  go_enter Try.func64, Try.ntmps64
  go_wp2
  go_loopw [5] (fun i wr => ∃ (k : Nat), k ≤ ds.length ∧ i = .int .i64 k ∧ Hid (Below w.heap.size w wr)) (fun i _ => ds.length - (intOf i).toNat)
  case atStart => exact ⟨0, Nat.zero_le _, rfl, Lib.hid (Below.refl _ _)⟩
  case round =>
    obtain ⟨k, hk, rfl, hbel⟩ := hrel
    by_cases hlt : k < ds.length
    · obtain ⟨b, o, rfl, hb, c1, c2⟩ := (HR.out.below hbel.out).at_ hlt
      obtain ⟨b', o', rfl, hb', c1', c2'⟩ := (HR2.out.below hbel.out).at_ hlt
      have hi1 : (k : Int) < (ds.length : Int) := by omega
      have hi0 : (0 : Int) ≤ (k : Int) := by omega
      go_wp2
      go_quiet (fail)
      go_wp2
      go_roundw
      case rel => exact ⟨k + 1, by omega, by go_num, Lib.hid (below_drewN hbel.out _)⟩
      case measure => simp [intOf]; omega
    · obtain rfl : k = ds.length := by omega
      go_wp2
      go_ret
      exact ⟨rfl, hbel.out⟩
set_option maxHeartbeats 400000 in
theorem equalEnum_any (ds : List D) (A A2 : Option Addr) (c c2 n n2 : Nat) (w : World) (hr : SD w w.heap.size A n c ds) (hr2 : SD w w.heap.size A2 n2 c2 ds) :
    Calls Try.prog 27 #[.agg #[.slice A n c], .agg #[.slice A2 n2 c2]] w fun e w' => e = .returned (.bool true) ∧ Below w.heap.size w w' := by
  have HR := Lib.hid hr
  have HR2 := Lib.hid hr2
  clear hr hr2
  go_enter Try.func27, Try.ntmps27
  go_wp2_with (go_at_call 64; refine (equalDefs_any ds _ _ _ _ _ _ _ (((HR.out.alloc (Nat.le_refl _) _).alloc (by simp) _).call (by simp; omega)) (((HR2.out.alloc (Nat.le_refl _) _).alloc (by simp) _).call (by simp; omega))).mono ?_; rintro e w1 ⟨rfl, hb1⟩; have HB1 := Lib.hid hb1; clear hb1)
  go_ret
  exact ⟨rfl, (((Below.refl _ _).alloc (Nat.le_refl _) _).alloc (by simp) _).trans (HB1.out.mono (by simp; omega))⟩

theorem mBuild_len (ts : List It) : (mBuild ts).length ≤ 12 := by
  unfold mBuild built
  split
  · rename_i h
    simp only [Bool.and_eq_true] at h
    exact vEnum_len h.2
  · simp
theorem mBuild_ok {ts : List It} (h : ∀ t ∈ ts, t.ok) : ∀ d ∈ mBuild ts, d.ok := by
  unfold mBuild
  split
  · exact bld_ok h _ (Nat.le_refl _)
  · intro d hd; cases hd
/-- What is so of what is built. -/
structure BFit (ts : List It) (ms : List D) : Prop where
  len : ms.length = ts.length
  name : ∀ k (h : k < ms.length) (h' : k < ts.length), ms[k].name = ts[k].name
  val : ∀ k (h : k < ms.length) (h' : k < ts.length), ts[k].auto = false → ms[k].val = ts[k].val
  up : ∀ k (h : k < ms.length) (h' : k < ts.length), ts[k].auto = true → ∀ i (hi : i < k), ms[i].val < ms[k].val
  ve : vEnum ms = true
theorem le_hiTo (ds : List D) (i k : Nat) (hi : i < k) (h : i < ds.length) : ds[i].val ≤ hiTo ds k := by
  induction k with
  | zero => omega
  | succ k ih =>
    show ds[i].val ≤ max (hiTo ds k) (valAt ds k)
    by_cases e : i = k
    · subst e; rw [valAt_get ds i h]; omega
    · have := ih (by omega); omega
theorem bfit {ts : List It} (h : built ts = true) : BFit ts (mBuild ts) := by
  have e : mBuild ts = bld ts ts.length := by unfold mBuild; rw [h]; rfl
  unfold built at h
  simp only [Bool.and_eq_true] at h
  obtain ⟨hv, hve⟩ := h
  rw [e]
  have hl := bld_len ts ts.length (Nat.le_refl _)
  have hget : ∀ k (h : k < (bld ts ts.length).length) (h' : k < ts.length), (bld ts ts.length)[k] = bldD (bld ts k) ts[k] := fun k h h' => by
    have := bld_get ts k ts.length h' (Nat.le_refl _)
    rw [List.getElem?_eq_getElem h] at this
    exact Option.some.inj this
  refine ⟨hl, fun k h h' => by rw [hget k h h']; rfl, fun k h h' ha => by rw [hget k h h']; unfold bldD; simp [ha], fun k h h' ha i hi => ?_, hve⟩
  rw [hget k h h']
  have hk0 : bld ts k ≠ [] := fun e => by have := bld_len ts k (by omega); rw [e] at this; simp at this; omega
  have hb := bld_bd hv k (by omega)
  have hlk := bld_len ts k (by omega)
  have e1 : (bldD (bld ts k) ts[k]).val = hiTo (bld ts k) (bld ts k).length + 1 := by
    unfold bldD nxt
    simp only [ha, if_true, if_neg hk0]
    have a := hiTo_le hk0 (fun d hd => (hb d hd).2) (bld ts k).length (Nat.le_refl _)
    have b := hiTo_ge hk0 (fun d hd => (hb d hd).1) (bld ts k).length (Nat.le_refl _)
    have c : ts.length ≤ 12 := by unfold vItems at hv; simp at hv; exact hv.2
    show IntKind.i64.wrap (hiTo (bld ts k) (bld ts k).length + 1) = _
    rw [IntKind.wrap_i64]
    omega
  have e2 : (bld ts ts.length)[i] = (bld ts k)[i]'(by omega) := by
    have h1 := bld_take ts k ts.length (by omega) (Nat.le_refl _)
    have h2 : ((bld ts ts.length).take k)[i]'(by rw [h1]; omega) = (bld ts k)[i]'(by omega) := by simp only [h1]
    rw [List.getElem_take] at h2
    exact h2
  rw [e1, e2]
  have := le_hiTo (bld ts k) i (bld ts k).length (by omega) (by omega)
  omega
/-- The items that tell just these definitions. -/
def again (ms : List D) : List It := ms.map fun d => ⟨d.name, false, d.val⟩
theorem again_len (ms : List D) : (again ms).length = ms.length := by simp [again]
theorem again_get (ms : List D) (k : Nat) (h : k < ms.length) : (again ms)[k]'(by rw [again_len]; exact h) = ⟨ms[k].name, false, ms[k].val⟩ := by simp [again]
theorem bld_again (ms : List D) (k : Nat) (hk : k ≤ ms.length) : bld (again ms) k = ms.take k := by
  induction k with
  | zero => simp [bld]
  | succ k ih =>
    rw [bld_succ _ k (by rw [again_len]; omega), ih (by omega), again_get ms k (by omega), List.take_succ_eq_append_getElem (by omega)]
    rfl
theorem built_again {ms : List D} (h : vEnum ms = true) : built (again ms) = true ∧ mBuild (again ms) = ms := by
  have e : bld (again ms) (again ms).length = ms := by rw [again_len, bld_again ms _ (Nat.le_refl _), List.take_of_length_le (Nat.le_refl _)]
  have h1 : built (again ms) = true := by
    rw [built_of (fun i hi _ => by rw [again_len] at hi; rw [again_get ms i hi]; rfl) (by rw [again_len]; exact vEnum_len h), e]
    exact h
  exact ⟨h1, by unfold mBuild; rw [h1, if_pos rfl, e]⟩
theorem again_ok {ms : List D} (h : ∀ d ∈ ms, d.ok) : ∀ t ∈ again ms, t.ok := by
  intro t ht
  obtain ⟨d, hd, rfl⟩ := List.mem_map.1 ht
  exact h d hd
theorem flatT_again (ms : List D) (k : Nat) (h : k < ms.length) : flatT (again (ms.take (k + 1))) = flatT (again (ms.take k)) ++ [.string ms[k].name, .bool false, .int .i64 ms[k].val] := by
  rw [List.take_succ_eq_append_getElem h]
  unfold again flatT
  rw [List.map_append, List.flatMap_append]
  rfl
end Go.Proofs.Ytjccnahebafepaa
