import Derived.Test.YtiklgghbkkmnaaaApp
namespace Go.Proofs.Ytiklgghbkkmnaaa
open Go.RowKit Go.Maps
set_option linter.unusedVariables false
set_option maxRecDepth 100000

def flatS (ss : List ByteArray) : List Value := ss.map Value.string
theorem flatS_length (ss : List ByteArray) : (flatS ss).length = ss.length := by simp [flatS]
/-- A fresh slice of texts. -/
def StrsP (ss : List ByteArray) (w : World) (e : Ending) (w' : World) : Prop :=
  ∃ A c, e = .returned (.slice A ss.length c) ∧ w'.ownsRow w.heap.size 9 1 (.slice A ss.length c) ss.length (flatS ss) ∧ Below w.heap.size w w'

/-- An owned row of texts reads as a slice of them. -/
theorem ss_of_own {w : World} {base n c : Nat} {A : Option Addr} {e : TypeId} {ss : List ByteArray} (h : w.ownsRow base e 1 (.slice A n c) n (flatS ss)) (hok : ∀ s ∈ ss, s.size ≤ maxLen) : SS w w.heap.size A n c ss := by
  have hl : ss.length = n := by have := h.1; rw [flatS_length] at this; omega
  rcases h.2 with ⟨h1, h2⟩ | ⟨g, cap, cur, h1, hb, hg, hc, hm, hs, ht⟩
  · injection h1 with e1 e2 e3
    exact ⟨.inl (List.eq_nil_of_length_eq_zero (by omega)), hl, by omega, by subst e3; unfold maxLen; omega, hok⟩
  · injection h1 with e1 e2 e3
    subst e1 e3
    refine ⟨.inr ⟨g, 0, rfl, (Array.getElem?_eq_some_iff.1 hg).1, fun i x hi j v hj => ?_⟩, hl, hc, hm, hok⟩
    obtain ⟨hil, rfl⟩ := List.getElem?_eq_some_iff.1 hi
    match j, hj with
    | 0, hj =>
      simp [encS] at hj
      subst hj
      rw [show 0 + i * 1 + 0 = i from by omega, h.cellAt i (by omega)]
      unfold flatS
      rw [List.getElem?_map, List.getElem?_eq_getElem hil]
      rfl
    | j + 1, hj => simp [encS] at hj

def mMembers (ds : List D) : List ByteArray := if vEnum ds then (mems ds).map (·.name) else []
theorem mems_ok {ds : List D} (h : ∀ d ∈ ds, d.ok) : ∀ d ∈ mems ds, d.ok := fun d hd => h d (memTo_in ds _ d hd)
theorem mems_len {ds : List D} : (mems ds).length ≤ ds.length := by unfold mems; rw [memTo_len]; exact memCnt_le _ _

set_option maxHeartbeats 1000000 in
theorem implMembersOf_any (ds : List D) (A : Option Addr) (c n : Nat) (w : World) (hr : SD w w.heap.size A n c ds) :
    Calls Try.prog 50 #[.agg #[.slice A n c]] w (StrsP (mMembers ds) w) := by
  obtain rfl := hr.len
  have hl := hr.max
  have hl2 := hr.cap
  unfold maxLen at hl
  have HR := Lib.hid hr
  clear hr
  have h0 : Below w.heap.size w (w.alloc (.cells #[.slice A ds.length c] 25)) := (Below.refl _ _).alloc (Nat.le_refl _) _
  have H0 := Lib.hid h0
  have HS := Lib.hid ((HR.out.below h0).call h0.size)
  clear h0
  cases hv : vEnum ds
  · have HV := Lib.hid hv
    have HM : Hid (mMembers ds = []) := Lib.hid (by unfold mMembers; rw [hv]; rfl)
    clear hv
    go_enter Try.func50, Try.ntmps50
    go_wp2_with (go_at_call 23; refine (implVE_v ds _ _ _ _ HS.out HV.out).mono ?_; rintro e w' ⟨rfl, hb⟩)
    go_ret
    exact ⟨none, 0, by rw [HM.out]; rfl, by rw [HM.out]; exact World.ownsRow_nil _ _ _ _, H0.out.trans (hb.mono H0.out.size)⟩
  · have HV := Lib.hid hv
    have HL := Lib.hid (vEnum_len hv)
    have HM : Hid (mMembers ds = (mems ds).map (·.name)) := Lib.hid (by unfold mMembers; rw [hv]; rfl)
    clear hv
    go_enter Try.func50, Try.ntmps50
    go_wp2_with (first | (go_at_call 23; refine (implVE_v ds _ _ _ _ HS.out HV.out).mono ?_; rintro e w1 ⟨rfl, hb⟩; have c1 := keep1 hb (show (w.alloc (.cells #[.slice A ds.length c] 25)).cell? ⟨w.heap.size, 0, none⟩ = some (.slice A ds.length c) by simp [go_sem]); have HS1 := Lib.hid ((HS.out.below hb).call hb.size); have HB1 : Hid (Below w.heap.size w w1) := Lib.hid (H0.out.trans (hb.mono H0.out.size)); clear hb) | (go_at_call 94; refine (memberIndexes_any ds _ _ _ _ HS1.out).mono ?_; rintro e w2 ⟨rfl, hi2, hb2⟩; have c2 := keep1 hb2 c1; have HI2 := Lib.hid hi2; have HS2 := Lib.hid ((HS1.out.below hb2).call hb2.size); have HB2 : Hid (Below w.heap.size w w2) := Lib.hid (HB1.out.trans (hb2.mono HB1.out.size)); clear hb2 hi2))
    clear c1 c2
    generalize w1.heap.size = g at HI2 ⊢
    go_loopw [4, 16] (fun v i wr => ∃ k : Nat, k ≤ ds.length ∧ i = .int .i64 k ∧ Hid (wr.ownsRow w2.heap.size 9 1 v (memCnt ds k) (flatS ((memTo ds k).map (·.name)))) ∧ Hid (Below w2.heap.size w2 wr)) (fun _ i _ => ds.length - (intOf i).toNat)
    case atStart => exact ⟨0, Nat.zero_le _, rfl, Lib.hid (World.ownsRow_nil _ _ _ _), Lib.hid (Below.refl _ _)⟩
    case round =>
      obtain ⟨k, hk, rfl, hown, hbel⟩ := hrel
      by_cases hlt : k < ds.length
      · obtain ⟨b, o, rfl, hb, c1, c2⟩ := (HS2.out.below hbel.out).at_ hlt
        have HV2 := Lib.hid (HR.out.ok _ (List.getElem_mem hlt)).2
        have HF := Lib.hid (mem_first ds k hlt)
        have HC := Lib.hid (memCnt_succ ds k hlt)
        have HT := Lib.hid (memTo_succ ds k hlt)
        have HLc := Lib.hid (memCnt_le ds k)
        have hi1 : (k : Int) < (ds.length : Int) := by omega
        have hpos : 0 ≤ fidx (isVal ds[k].val) ds := by
          rcases fidx_cases (isVal ds[k].val) ds with ⟨h1, hn⟩ | ⟨j, hj, h1, _⟩
          · have := hn k hlt hlt; unfold isVal at this; simp at this
          · omega
        have hlk : ∀ o : Obj, (Instr.lookup 111 (.map (some g)) (.int .i64 ds[k].val) false).run Try.prog (wr.alloc o) = .ok (.int .i64 (fidx (isVal ds[k].val) ds)) (wr.alloc o) := fun o => ((HI2.out.below hbel.out).alloc o).look1 _ HV2.out hpos
        clear hpos
        cases hm : memAt ds k ds[k]
        · have HMm := Lib.hid hm
          have hq : (fidx (isVal ds[k].val) ds == (k : Int)) = false := by rw [HF.out, hm]
          clear hm HF
          generalize fidx (isVal ds[k].val) ds = q at hq hlk
          go_wp2
          go_roundw
          case rel => exact ⟨k + 1, by omega, by go_num, Lib.hid (by rw [HC.out, HT.out, HMm.out]; simpa using hown.out.alloc _), Lib.hid (hbel.out.alloc hbel.out.size _)⟩
          case measure => simp [intOf]; omega
        · have HMm := Lib.hid hm
          have hq : (fidx (isVal ds[k].val) ds == (k : Int)) = true := by rw [HF.out, hm]
          clear hm HF
          generalize fidx (isVal ds[k].val) ds = q at hq hlk
          go_wp2_with (at_builtin; refine wpList_app_S rfl _ _ rfl w2.heap.size _ _ _ rfl (hown.out.alloc _) _ _ _ rfl (by first | rfl | simp) (by have := HLc.out; have := HL.out; omega) (by have := hbel.out.size; simp; omega) ?_; intro v' w3 ho1 hb1; have HO1 := Lib.hid ho1; have HB3 := Lib.hid hb1; clear ho1 hb1)
          go_roundw
          case rel => exact ⟨k + 1, by omega, by go_num, Lib.hid (by rw [HC.out, HT.out, HMm.out]; simpa [flatS] using HO1.out), Lib.hid ((hbel.out.alloc hbel.out.size _).trans HB3.out)⟩
          case measure => simp [intOf]; omega
      · obtain rfl : k = ds.length := by omega
        go_wp2
        go_ret
        obtain ⟨A', c', hv⟩ := own_form hown.out
        subst hv
        have h2 := hown.out
        have e : memCnt ds ds.length = ((mems ds).map (·.name)).length := by rw [List.length_map]; exact (memTo_len ds _).symm
        rw [e] at h2 ⊢
        exact ⟨A', c', by rw [HM.out]; rfl, by rw [HM.out]; exact own_base h2 HB2.out.size, HB2.out.trans (hbel.out.mono HB2.out.size)⟩

theorem mMembers_ok {ds : List D} (h : ∀ d ∈ ds, d.ok) : ∀ t ∈ mMembers ds, t.size ≤ maxLen := by
  unfold mMembers
  split
  · intro t ht
    simp at ht
    obtain ⟨d, hd, rfl⟩ := ht
    exact (mems_ok h d hd).1
  · intro t ht; cases ht
theorem mMembers_len (ds : List D) : (mMembers ds).length ≤ 12 := by
  unfold mMembers
  split
  · rename_i hv
    have := vEnum_len hv
    have := mems_len (ds := ds)
    simp; omega
  · simp
end Go.Proofs.Ytiklgghbkkmnaaa
