import Derived.Test.YtlabdkmjdejgcaaApp
namespace Go.Proofs.Ytlabdkmjdejgcaa
open Go.RowKit Go.Maps
set_option linter.unusedVariables false
set_option maxRecDepth 100000

def flatS (ss : List ByteArray) : List Value := ss.map Value.string
theorem flatS_length (ss : List ByteArray) : (flatS ss).length = ss.length := by simp [flatS]
/-- A fresh slice of texts. -/
def StrsP (ss : List ByteArray) (w : World) (e : Ending) (w' : World) : Prop :=
  ∃ A c, e = .returned (.slice A ss.length c) ∧ w'.ownsRow w.heap.size 9 1 (.slice A ss.length c) ss.length (flatS ss) ∧ Below w.heap.size w w'

/-- An owned row of texts reads as a slice of them. -/
theorem ss_of_own {w : World} {base n c : Nat} {A : Option Addr} {e : TypeId} {ss : List ByteArray} (h : w.ownsRow base e 1 (.slice A n c) n (flatS ss)) (hok : ∀ s ∈ ss, s.size ≤ maxLen) : SS w w.heap.size A n c ss := by
  have hl : ss.length = n := by have := h.1; rw [flatS_length] at this; omega
  rcases h.2 with ⟨h1, h2⟩ | ⟨g, cap, cur, h1, hb, hg, hc, hm, hs, ht⟩
  · injection h1 with e1 e2 e3
    exact ⟨.inl (List.eq_nil_of_length_eq_zero (by omega)), hl, by omega, by subst e3; unfold maxLen; omega, hok⟩
  · injection h1 with e1 e2 e3
    subst e1 e3
    refine ⟨.inr ⟨g, 0, rfl, (Array.getElem?_eq_some_iff.1 hg).1, fun i x hi j v hj => ?_⟩, hl, hc, hm, hok⟩
    obtain ⟨hil, rfl⟩ := List.getElem?_eq_some_iff.1 hi
    match j, hj with
    | 0, hj =>
      simp [encS] at hj
      subst hj
      rw [show 0 + i * 1 + 0 = i from by omega, h.cellAt i (by omega)]
      unfold flatS
      rw [List.getElem?_map, List.getElem?_eq_getElem hil]
      rfl
    | j + 1, hj => simp [encS] at hj

set_option maxHeartbeats 1000000 in
theorem namesOf_any (ds : List D) (A : Option Addr) (c n : Nat) (w : World) (hr : SD w w.heap.size A n c ds) (hn : n ≤ 1048576) :
    Calls Try.prog 37 #[.slice A n c] w (StrsP (ds.map (·.name)) w) := by
  obtain rfl := hr.len
  have hl := hr.max
  have hl2 := hr.cap
  unfold maxLen at hl
  have HR := Lib.hid hr
  clear hr
  go_enter Try.func37, Try.ntmps37
  go_wp2
  have H0 : Hid (Below w.heap.size w (w.alloc (.cells #[] 9))) := Lib.hid ((Below.refl _ _).alloc (Nat.le_refl _) _)
  have H1 : Hid ((w.alloc (.cells #[] 9)).ownsRow w.heap.size 9 1 (.slice (some ⟨w.heap.size, 0, none⟩) 0 0) 0 (flatS ((ds.take 0).map (·.name)))) := Lib.hid (World.ownsRow_made w #[] 0 (Nat.le_refl _) (by unfold maxLen; omega) rfl)
  go_loopw [3, 4] (fun v i wr => ∃ k : Nat, k ≤ ds.length ∧ i = .int .i64 k ∧ Hid (wr.ownsRow w.heap.size 9 1 v k (flatS ((ds.take k).map (·.name)))) ∧ Hid (Below w.heap.size w wr)) (fun _ i _ => ds.length - (intOf i).toNat)
  case atStart => exact ⟨0, Nat.zero_le _, rfl, H1, H0⟩
  case round =>
    clear H0 H1
    obtain ⟨k, hk, rfl, hown, hbel⟩ := hrel
    by_cases hlt : k < ds.length
    · obtain ⟨b, o, rfl, hb, c1, c2⟩ := (HR.out.below hbel.out).at_ hlt
      have hi1 : (k : Int) < (ds.length : Int) := by omega
      have HT : Hid (flatS ((ds.take (k + 1)).map (·.name)) = flatS ((ds.take k).map (·.name)) ++ [.string ds[k].name]) := Lib.hid (by rw [List.take_succ_eq_append_getElem hlt]; unfold flatS; rw [List.map_append, List.map_append]; rfl)
      go_wp2_with (at_builtin; refine wpList_app_S rfl _ _ rfl _ _ _ _ rfl hown.out _ _ _ rfl (by first | rfl | simp) (by omega) hbel.out.size ?_; intro v' w1 ho1 hb1; have HO1 := Lib.hid ho1; have HB1 := Lib.hid hb1; clear ho1 hb1)
      go_roundw
      case rel => exact ⟨k + 1, by omega, by go_num, Lib.hid (by rw [HT.out]; exact HO1.out), Lib.hid (hbel.out.trans HB1.out)⟩
      case measure => simp [intOf]; omega
    · obtain rfl : k = ds.length := by omega
      go_wp2
      go_ret
      obtain ⟨A', c', hv⟩ := own_form hown.out
      subst hv
      have h2 := hown.out
      rw [List.take_of_length_le (Nat.le_refl _)] at h2
      exact ⟨A', c', by rw [List.length_map]; rfl, by rw [List.length_map]; exact h2, hbel.out⟩

def mMembers (ds : List D) : List ByteArray := if vEnum ds then (mems ds).map (·.name) else []
theorem mems_ok {ds : List D} (h : ∀ d ∈ ds, d.ok) : ∀ d ∈ mems ds, d.ok := fun d hd => h d (memTo_in ds _ d hd)
theorem mems_len {ds : List D} : (mems ds).length ≤ ds.length := by unfold mems; rw [memTo_len]; exact memCnt_le _ _

theorem mMembers_ok {ds : List D} (h : ∀ d ∈ ds, d.ok) : ∀ t ∈ mMembers ds, t.size ≤ maxLen := by
  unfold mMembers
  split
  · intro t ht
    simp at ht
    obtain ⟨d, hd, rfl⟩ := ht
    exact (mems_ok h d hd).1
  · intro t ht; cases ht
theorem mMembers_len (ds : List D) : (mMembers ds).length ≤ 12 := by
  unfold mMembers
  split
  · rename_i hv
    have := vEnum_len hv
    have := mems_len (ds := ds)
    simp; omega
  · simp
end Go.Proofs.Ytlabdkmjdejgcaa
