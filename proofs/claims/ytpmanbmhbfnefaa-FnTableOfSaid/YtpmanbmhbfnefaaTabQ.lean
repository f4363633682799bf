import Derived.Test.YtpmanbmhbfnefaaTabM
import Derived.Test.YtpmanbmhbfnefaaTabP
import Derived.Test.YtpmanbmhbfnefaaConvM
namespace Go.Proofs.Ytpmanbmhbfnefaa
open Go.RowKit Go.Maps
set_option linter.unusedVariables false
set_option linter.unusedSimpArgs false
set_option maxRecDepth 100000

/-! ### rows that a table is made of -/
def tRow (n : Nat) (f : Nat → Bool) : List Value := (List.range n).map fun j => .bool (f j)
theorem tRow_len (n : Nat) (f : Nat → Bool) : (tRow n f).length = n := by simp [tRow]
theorem tRow_get {n : Nat} (f : Nat → Bool) {j : Nat} (h : j < n) : (tRow n f)[j]? = some (.bool (f j)) := by simp [tRow, h]
theorem tRow_zero (n : Nat) : (madeCells #[Value.bool false] n).toList = tRow n (fun _ => false) := by
  apply List.ext_getElem?
  intro j
  by_cases hj : j < n
  · rw [tRow_get _ hj]
    simp [madeCells, hj, Nat.mod_one]
  · rw [List.getElem?_eq_none (by simp [madeCells]; omega), List.getElem?_eq_none (by rw [tRow_len]; omega)]
theorem iRow_zero (ds L : List D) (n : Nat) : (madeCells #[Value.int .i64 0] n).toList = flatI (numL ds L n 0) := by
  rw [numL_zero]
  apply List.ext_getElem?
  intro j
  by_cases hj : j < n
  · simp [madeCells, hj, Nat.mod_one, flatI]
  · rw [List.getElem?_eq_none (by simp [madeCells]; omega), List.getElem?_eq_none (by simp [flatI]; omega)]
theorem tRow_hit {ds L : List D} {q k : Nat} (hk : k < L.length) : (tRow q (hit ds L k)).set (rkN ds L[k].name) (.bool true) = tRow q (hit ds L (k + 1)) := by
  apply List.ext_getElem?
  intro j
  by_cases hj : j < q
  · rw [tRow_get _ hj, List.getElem?_set, hit_succ hk]
    by_cases e : rkN ds L[k].name = j
    · rw [if_pos e, if_pos (by rw [tRow_len]; omega), decide_eq_true e, Bool.or_true]
    · rw [if_neg e, tRow_get _ hj, decide_eq_false e, Bool.or_false]
  · rw [List.getElem?_eq_none (by rw [List.length_set, tRow_len]; omega), List.getElem?_eq_none (by rw [tRow_len]; omega)]
theorem flatI_num {ds L : List D} {q k : Nat} (hk : k < L.length) : (flatI (numL ds L q k)).set (rkN ds L[k].name) (.int .i64 L[k].val) = flatI (numL ds L q (k + 1)) := by
  rw [← numL_succ hk]
  unfold flatI
  rw [List.map_set]
theorem flatI_num_get {ds L : List D} {q k r : Nat} (hr : r < q) : ∃ z : Int, (flatI (numL ds L q k))[r]? = some (.int .i64 z) := by
  refine ⟨numF ds L k r, ?_⟩
  unfold flatI numL
  simp [hr]
theorem numL_ok {ds L : List D} {q k : Nat} (h : ∀ d ∈ L, d.ok) : ∀ z ∈ numL ds L q k, -9223372036854775808 ≤ z ∧ z ≤ 9223372036854775807 := by
  have key : ∀ n r, -9223372036854775808 ≤ numF ds L n r ∧ numF ds L n r ≤ 9223372036854775807 := by
    intro n r
    induction n with
    | zero => rw [numF]; omega
    | succ n ih =>
      rw [numF]
      split
      · rename_i d hd
        split
        · exact (h d (List.mem_of_getElem? hd)).2
        · exact ih
      · exact ih
  intro z hz
  unfold numL at hz
  obtain ⟨r, _, rfl⟩ := List.mem_map.1 hz
  exact key k r
theorem mTab_rng (ds L : List D) : ∀ z ∈ mTab ds L, -1000 ≤ z ∧ z ≤ 1000 := by
  cases h : mTabOk ds L
  · rw [mTab_no h]; intro z hz; cases hz
  · have e : mTab ds L = numL ds L (mems ds).length L.length := by unfold mTab; rw [if_pos h]
    rw [e]
    unfold mTabOk at h
    rw [Bool.and_eq_true] at h
    intro z hz
    unfold numL at hz
    obtain ⟨r, _, rfl⟩ := List.mem_map.1 hz
    exact numF_rng h.2 _ _
theorem mTab_yes {ds L : List D} (h : mTabOk ds L = true) : mTab ds L = numL ds L (mems ds).length L.length := by unfold mTab; rw [if_pos h]
theorem mTab_len (ds L : List D) : (mTab ds L).length ≤ 12 := by
  cases h : mTabOk ds L
  · rw [mTab_no h]; exact Nat.zero_le _
  · rw [mTab_yes h, numL_len]
    unfold mTabOk at h
    simp only [Bool.and_eq_true] at h
    exact mems_12 h.1.1.1

/-! ### the members by their names -/
theorem mk_at {ds : List D} (hv : vEnum ds = true) {r : Nat} (hr : r < (mems ds).length) : fidx (isNm (mems ds)[r].name) (mems ds) = (r : Int) := by
  rcases fidx_cases (isNm (mems ds)[r].name) (mems ds) with ⟨_, hn⟩ | ⟨j, hj, h1, hp, _⟩
  · have := hn r hr hr
    unfold isNm at this
    simp at this
  · rw [h1]
    obtain ⟨a, ha, ea⟩ := List.mem_iff_getElem.1 (memTo_in ds _ _ (List.getElem_mem hj))
    obtain ⟨b, hb, eb⟩ := List.mem_iff_getElem.1 (memTo_in ds _ _ (List.getElem_mem hr))
    have hn := isNm_iff.1 hp
    have e : a = b := names_apart hv a b ha hb (by rw [ea, eb]; exact hn)
    have e2 : (mems ds)[j] = (mems ds)[r] := by
      have : ds[a] = ds[b] := by subst e; rfl
      exact ea.symm.trans (this.trans eb)
    have hpw := List.pairwise_iff_getElem.1 (mems_apart ds)
    rcases Nat.lt_trichotomy j r with h | h | h
    · exact absurd (congrArg D.val e2) (hpw j r hj hr h)
    · rw [h]
    · exact absurd (congrArg D.val e2.symm) (hpw r j hr hj h)
theorem mk_empty {ds : List D} (hv : vEnum ds = true) : fidx (isNm ⟨#[]⟩) (mems ds) = -1 := by
  rcases fidx_cases (isNm ⟨#[]⟩) (mems ds) with ⟨h, _⟩ | ⟨j, hj, h1, hp, _⟩
  · exact h
  · exfalso
    have hn := isNm_iff.1 hp
    have h2 := vEnum_name hv _ (memTo_in ds _ _ (List.getElem_mem hj))
    rw [hn] at h2
    exact absurd h2 (by decide)
/-- What the map of the members that are left tells. -/
def lf (ds L : List D) (k : Nat) (s : ByteArray) : Int := if 0 ≤ fidx (isNm s) (mems ds) ∧ hit ds L k (fidx (isNm s) (mems ds)).toNat = false then fidx (isNm s) (mems ds) else -1
theorem lf_zero (ds L : List D) : (fun s => fidx (isNm s) (mems ds)) = lf ds L 0 := by
  funext s
  unfold lf
  rcases fidx_cases (isNm s) (mems ds) with ⟨h, _⟩ | ⟨j, hj, h1, hp, _⟩
  · rw [h, if_neg (fun h => absurd h.1 (by decide))]
  · rw [h1, if_pos ⟨by omega, hit_zero _ _ _⟩]
theorem lf_succ {ds L : List D} (hv : vEnum ds = true) {k r : Nat} (hk : k < L.length) (hr : r < (mems ds).length) (he : rkN ds L[k].name = r) : (fun t => if t = (mems ds)[r].name then (-1 : Int) else lf ds L k t) = lf ds L (k + 1) := by
  funext t
  by_cases ht : t = (mems ds)[r].name
  · subst ht
    rw [if_pos rfl]
    unfold lf
    rw [mk_at hv hr, Int.toNat_natCast, hit_succ hk, he, decide_eq_true rfl, Bool.or_true, if_neg (fun h => absurd h.2 (by decide))]
  · rw [if_neg ht]
    unfold lf
    rcases fidx_cases (isNm t) (mems ds) with ⟨h, _⟩ | ⟨j, hj, h1, hp, _⟩
    · rw [h, if_neg (fun h => absurd h.1 (by decide)), if_neg (fun h => absurd h.1 (by decide))]
    · have hjr : j ≠ r := fun e => by
        subst e
        exact ht (isNm_iff.1 hp).symm
      rw [h1, Int.toNat_natCast, hit_succ hk, he, decide_eq_false (fun e => hjr e.symm), Bool.or_false]
theorem lf_at {ds L : List D} (hv : vEnum ds = true) {k r : Nat} (hr : r < (mems ds).length) : lf ds L k (mems ds)[r].name = if hit ds L k r then -1 else (r : Int) := by
  unfold lf
  rw [mk_at hv hr, Int.toNat_natCast]
  cases hit ds L k r
  · rw [if_pos ⟨by omega, rfl⟩]; rfl
  · rw [if_neg (fun h => absurd h.2 (by decide))]; rfl
theorem lf_empty {ds L : List D} (hv : vEnum ds = true) (k : Nat) : lf ds L k ⟨#[]⟩ = -1 := by
  unfold lf
  rw [mk_empty hv, if_neg (fun h => absurd h.1 (by decide))]

/-- What is told of a table that is turned round. -/
def TurR (ds : List D) (w : World) (e : Ending) (w' : World) : Prop :=
  ∃ b nn, e = .returned (.map (some b)) ∧ IdxS w' b nn (fun s => fidx (isNm s) (mems ds)) (mems ds).length ∧ nn < 1000 ∧ w.heap.size ≤ b ∧ Below w.heap.size w w'
theorem IdxS.pos {w : World} {b n cnt : Nat} {f : ByteArray → Int} (h : IdxS w b n f cnt) {s : ByteArray} (hf : 0 ≤ f s) : 0 < cnt := by
  obtain ⟨D, h1, h2, hz, h3⟩ := h
  have := size_del (h1.tidy strKey) (k := Lit.string s.data.toList)
  rw [((h3 s).2 hf).1, if_pos rfl, hz] at this
  omega
set_option maxHeartbeats 4000000 in
theorem turned_v (ds : List D) (A R : Option Addr) (n c q k : Nat) (w : World) (hs : SS w w.heap.size R q k (mMembers ds)) (hv : vEnum ds = true) (hok : ∀ d ∈ ds, d.ok) :
    Calls Try.prog 50 #[.agg #[.slice A n c, .slice R q k]] w (TurR ds w) := by
  have hm : mMembers ds = (mems ds).map (·.name) := by unfold mMembers; rw [if_pos hv]
  have hql := hs.len
  rw [hm, List.length_map] at hql
  rw [hm] at hs
  have h12 := mems_12 hv
  have HNM := Lib.hid (fun r hr => mk_at (ds := ds) hv (r := r) hr)
  have HSZ : Hid (∀ r (hr : r < (mems ds).length), (mems ds)[r].name.size ≤ maxLen) := Lib.hid fun r hr => (hok _ (memTo_in ds _ _ (List.getElem_mem hr))).1
  have HK : Hid (∀ w' b nn, IdxS w' b nn (fun s => fidx (isNm s) (mems ds)) (mems ds).length → nn < 1000 → w.heap.size ≤ b → Below w.heap.size w w' → TurR ds w (.returned (.map (some b))) w') := Lib.hid (fun w' b nn h1 h2 h3 h4 => ⟨b, nn, rfl, h1, h2, h3, h4⟩)
  generalize mems ds = M at *
  obtain ⟨w0, hw⟩ : ∃ W : World, W = (w.alloc (.cells #[.slice A n c, .slice R q k] 84)).alloc (.map #[] 0) := ⟨_, rfl⟩
  have HB0 : Hid (Below w.heap.size w w0) := Lib.hid (by rw [hw]; exact ((Below.refl _ _).alloc (Nat.le_refl _) _).alloc (by simp) _)
  have HI0 : Hid (IdxS w0 (w.heap.size + 1) 0 (fun s => fidx (isNm s) (M.take 0)) 0) := Lib.hid (by
    have h := IdxS.made (w.alloc (.cells #[.slice A n c, .slice R q k] 84))
    have e : (w.alloc (.cells #[.slice A n c, .slice R q k] 84)).heap.size = w.heap.size + 1 := by simp
    rw [e] at h
    rw [hw]
    exact h)
  have hs0 : w.heap.size + 2 ≤ w0.heap.size := by rw [hw]; simp
  have HS := Lib.hid hs
  have hmm := fun (n : Int) => run_makeMap_hint (P := Try.prog) Try.underlying86 n
  have pr0 : w0.cell? ⟨w.heap.size, 1, none⟩ = some (.slice R q k) := by rw [hw]; simp [go_sem]
  have lr : ((w.alloc (.cells #[.slice A n c, .slice R q k] 84)).alloc (.map #[] 0)).cell? ⟨w.heap.size, 1, none⟩ = some (.slice R q k) := by rw [← hw]; exact pr0
  have HW := Lib.hid hw.symm
  clear hw hs hm
  go_enter Try.func50, Try.ntmps50
  go_wp2
  rw [HW.out]
  clear lr hmm
  go_loopw [13] (fun i wr => ∃ (j : Nat), j ≤ q ∧ i = .int .i64 j ∧ Hid (IdxS wr (w.heap.size + 1) j (fun s => fidx (isNm s) (M.take j)) j) ∧ Hid (Below w.heap.size w wr)) (fun i _ => q - (intOf i).toNat)
  case atStart => exact ⟨0, Nat.zero_le _, rfl, HI0, HB0⟩
  case round =>
    clear HI0 HB0 pr0
    obtain ⟨j, hj, rfl, HIX, HBE⟩ := hrel
    have hj0 : (0 : Int) ≤ (j : Int) := by omega
    by_cases hlt : j < q
    · have hji : (j : Int) < (q : Int) := by omega
      have hjM : j < M.length := by omega
      obtain ⟨bb, o, hA, hbb, d0⟩ := (HS.out.below HBE.out).at_ (k := j) (by rw [List.length_map]; exact hjM)
      subst hA
      rw [List.getElem_map] at d0
      have HNJ := Lib.hid (HNM.out j hjM)
      have HSJ := Lib.hid (HSZ.out j hjM)
      have HF : Hid (fidx (isNm M[j].name) (M.take j) < 0) := Lib.hid (by
        rcases fidx_cases (isNm M[j].name) (M.take j) with ⟨h, _⟩ | ⟨x, hx, h1, hp, _⟩
        · omega
        · exfalso
          have hx2 : x < j := by rw [List.length_take] at hx; omega
          rw [List.getElem_take] at hp
          rcases fidx_cases (isNm M[j].name) M with ⟨h, hn⟩ | ⟨y, hy, h3, _, hno⟩
          · have := HNJ.out; omega
          · have h4 : y = j := by have := HNJ.out; omega
            subst h4
            have := hno x (by omega) hx2
            rw [hp] at this
            cases this)
      have HE : Hid ((fun t => if t = M[j].name then (j : Int) else fidx (isNm t) (M.take j)) = fun t => fidx (isNm t) (M.take (j + 1))) := Lib.hid (by
        funext t
        rw [fidx_take_succ _ _ _ hjM]
        by_cases ht : t = M[j].name
        · subst ht
          rw [if_pos rfl, if_pos HF.out, if_pos (by unfold isNm; simp)]
        · rw [if_neg ht]
          have hnt : isNm t M[j] = false := by
            cases h : isNm t M[j]
            · rfl
            · exact absurd (isNm_iff.1 h).symm ht
          rw [hnt]
          rcases fidx_cases (isNm t) (M.take j) with ⟨h, _⟩ | ⟨x, hx, h1, _, _⟩
          · rw [h, if_pos (by decide)]; rfl
          · rw [h1, if_neg (by omega)])
      generalize M[j].name = s at *
      go_wp2_with (at_mapUpdate; refine wpList_idxS_put _ rfl _ _ _ rfl _ _ _ _ _ _ rfl HIX.out (by unfold maxLen; omega) HSJ.out (And.intro (by omega) (by omega)) HF.out rfl rfl ?_; intro w1 hp1 hg1; have HP1 := Lib.hid hp1; have HG1 := Lib.hid hg1; clear hp1 hg1)
      go_roundw
      case rel => exact ⟨j + 1, hlt, by go_num, Lib.hid (by rw [← HE.out]; exact HP1.out), Lib.hid (HBE.out.grown HG1.out HBE.out.size (fun r hr => by cases hr; omega))⟩
      case measure => simp [intOf]; omega
    · obtain rfl : j = q := by omega
      have hji : ¬ (j : Int) < (j : Int) := by omega
      go_wp2
      go_ret
      exact HK.out _ _ j (by have h := HIX.out; rw [← hql, List.take_of_length_le (Nat.le_refl _), hql] at h; rw [hql]; exact h) (by omega) (by omega) HBE.out
end Go.Proofs.Ytpmanbmhbfnefaa
