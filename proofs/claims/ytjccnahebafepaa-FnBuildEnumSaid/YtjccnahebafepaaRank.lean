import Derived.Test.YtjccnahebafepaaMemOf
import Derived.Test.YtjccnahebafepaaNmOf
namespace Go.Proofs.Ytjccnahebafepaa
open Go.RowKit Go.Maps
set_option linter.unusedVariables false

/-! ### plain facts -/
theorem fidx_congr {α : Type} {p q : α → Bool} {l : List α} (h : ∀ x ∈ l, p x = q x) : fidx p l = fidx q l := by
  rcases fidx_cases p l with ⟨h1, hn⟩ | ⟨k, hk, h1, hp, hn⟩
  · rw [h1, fidx_none (p := q) (fun i hi hk => by rw [← h _ (List.getElem_mem hi)]; exact hn i hi hk)]
  · rw [h1, fidx_some (p := q) (k := k) (fun i hi hik => by rw [← h _ (List.getElem_mem hi)]; exact hn i hi hik) hk (by rw [← h _ (List.getElem_mem hk)]; exact hp)]
theorem fidx_map {α β : Type} (f : α → β) (p : β → Bool) (l : List α) : fidx p (l.map f) = fidx (fun x => p (f x)) l := by
  unfold fidx
  rw [List.findIdx?_map]
  rfl
theorem memTo_mem (ds : List D) (k : Nat) (hk : k ≤ ds.length) (d : D) (h : d ∈ memTo ds k) : ∃ i, ∃ hi : i < ds.length, i < k ∧ ds[i] = d ∧ memAt ds i d = true := by
  induction k with
  | zero => cases h
  | succ k ih =>
    rw [memTo_succ ds k (by omega)] at h
    rcases List.mem_append.1 h with h | h
    · obtain ⟨i, hi, h1, h2⟩ := ih (by omega) h
      exact ⟨i, hi, by omega, h2⟩
    · by_cases hm : memAt ds k ds[k]
      · rw [if_pos hm] at h
        simp at h
        subst h
        exact ⟨k, by omega, by omega, rfl, hm⟩
      · rw [if_neg hm] at h; cases h
theorem memTo_has (ds : List D) (k : Nat) (hk : k ≤ ds.length) (i : Nat) (hi : i < ds.length) (hik : i < k) (hm : memAt ds i ds[i] = true) : ds[i] ∈ memTo ds k := by
  induction k with
  | zero => omega
  | succ k ih =>
    rw [memTo_succ ds k (by omega)]
    by_cases e : i = k
    · subst e; rw [if_pos hm]; simp
    · exact List.mem_append_left _ (ih (by omega) (by omega))
theorem names_apart {ds : List D} (hv : vEnum ds = true) (i j : Nat) (hi : i < ds.length) (hj : j < ds.length) (e : ds[i].name = ds[j].name) : i = j := by
  have key : ∀ i j (hi : i < ds.length) (hj : j < ds.length), ds[i].name = ds[j].name → ¬ i < j := by
    intro i j hi hj e hij
    have h := vEnum_good hv j hj hj
    unfold goodAt at h
    simp only [Bool.and_eq_true, decide_eq_true_eq] at h
    have h2 := h.2
    rcases fidx_cases (isNm ds[j].name) (ds.take j) with ⟨h1, hn⟩ | ⟨m, hm, h1, _⟩
    · have h3 := hn i (by simp; omega) (by simp; omega)
      rw [List.getElem_take] at h3
      have : isNm ds[j].name ds[i] = true := isNm_iff.2 e
      rw [this] at h3; cases h3
    · omega
  rcases Nat.lt_trichotomy i j with h | h | h
  · exact absurd h (key i j hi hj e)
  · exact h
  · exact absurd h (key j i hj hi e.symm)
/-- Among members the value tells the name. -/
theorem mem_value_name {ds : List D} (hv : vEnum ds = true) (j : Nat) (hj : j < ds.length) (hx : fidx (isVal ds[j].val) ds = j) (d : D) (hd : d ∈ mems ds) : isVal ds[j].val d = isNm ds[j].name d := by
  obtain ⟨i, hi, _, rfl, hm⟩ := memTo_mem ds _ (Nat.le_refl _) d hd
  rw [Bool.eq_iff_iff, isNm_iff]
  have h1 := mem_first ds i hi
  rw [hm] at h1
  simp at h1
  constructor
  · intro h
    unfold isVal at h
    simp at h
    rw [h] at h1
    obtain rfl : i = j := by omega
    rfl
  · intro h
    obtain rfl := names_apart hv i j hi hj h
    unfold isVal; simp
theorem first_of {ds : List D} (k : Nat) (hk : k < ds.length) : ∃ j, ∃ hj : j < ds.length, fidx (isVal ds[k].val) ds = (j : Int) ∧ ds[j].val = ds[k].val ∧ memAt ds j ds[j] = true ∧ j ≤ k := by
  rcases fidx_cases (isVal ds[k].val) ds with ⟨h1, hn⟩ | ⟨j, hj, h1, hp, hn⟩
  · have := hn k hk hk; unfold isVal at this; simp at this
  · have e : ds[j].val = ds[k].val := by unfold isVal at hp; simpa using hp
    refine ⟨j, hj, h1, e, ?_, ?_⟩
    · rw [← mem_first ds j hj, e, h1]; simp
    · rcases Nat.lt_or_ge k j with h | h
      · have := hn k hk h; unfold isVal at this; simp at this
      · exact h
theorem rank_in {ds : List D} (k : Nat) (hk : k < ds.length) : ∃ r : Nat, ∃ _ : r < (mems ds).length, fidx (isVal ds[k].val) (mems ds) = (r : Int) := by
  obtain ⟨j, hj, _, e, hm, _⟩ := first_of k hk
  rcases fidx_cases (isVal ds[k].val) (mems ds) with ⟨h1, hn⟩ | ⟨r, hr, h1, _⟩
  · have hin := memTo_has ds ds.length (Nat.le_refl _) j hj hj hm
    obtain ⟨i, hi, e2⟩ := List.mem_iff_getElem.1 hin
    have h3 := hn i hi hi
    have h4 : (mems ds)[i] = ds[j] := e2
    rw [h4] at h3
    unfold isVal at h3
    simp at h3
    exact absurd e h3
  · exact ⟨r, hr, h1⟩

/-! ### slices.Index over texts -/
def isT (s t : ByteArray) : Bool := s.toList == t.toList
set_option maxHeartbeats 400000 in
theorem sliceIndex_any (ss : List ByteArray) (s : ByteArray) (A : Option Addr) (c n : Nat) (w : World) (hr : SS w w.heap.size A n c ss) :
    Calls Try.prog 74 #[.slice A n c, .string s] w fun e w' => e = .returned (.int .i64 (fidx (isT s) ss)) ∧ w = w' := by
  obtain rfl := hr.len
  have hl := hr.max
  have hl2 := hr.cap
  unfold maxLen at hl
  have HR := Lib.hid hr
  clear hr
  go_enter Try.func74, Try.ntmps74
  go_wp2
  go_loop [8] (fun i => ∃ k : Nat, k ≤ ss.length ∧ i = .int .i64 k ∧ Hid (noTo (isT s) ss k)) (fun i => ss.length - (intOf i).toNat)
  case atStart => exact ⟨0, Nat.zero_le _, rfl, Lib.hid (noTo_zero _ _)⟩
  case round =>
    obtain ⟨k, hk, rfl, hok⟩ := hrel
    by_cases hlt : k < ss.length
    · obtain ⟨b, o, rfl, hb, c1⟩ := HR.out.at_ hlt
      cases hp : isT s ss[k]
      · have hp1 : (s.toList == ss[k].toList) = false := hp
        have HP := Lib.hid hp
        clear hp
        go_wp2
        go_round
        case rel => exact ⟨k + 1, by omega, by go_num, Lib.hid (noTo_succ hok.out hlt HP.out)⟩
        case measure => simp [intOf]; omega
      · have hp1 : (s.toList == ss[k].toList) = true := hp
        have HP := Lib.hid hp
        clear hp
        go_wp2
        go_ret
        exact ⟨ret_int (fidx_some hok.out hlt HP.out).symm, rfl⟩
    · obtain rfl : k = ss.length := by omega
      go_wp2
      go_ret
      exact ⟨ret_int (fidx_none hok.out).symm, rfl⟩

/-! ### RankOf -/
set_option maxHeartbeats 1000000 in
theorem specRankOf_no (ds : List D) (s : ByteArray) (A : Option Addr) (c n : Nat) (w : World) (hr : SD w w.heap.size A n c ds) {v : Bool} {x : Int} (hv : vEnum ds = v) (hx : fidx (isNm s) ds = x) (h : v = false ∨ x < 0) :
    Calls Try.prog 49 #[.agg #[.slice A n c], .string s] w fun e w' => e = .returned (.int .i64 (-1)) ∧ Below w.heap.size w w' := by
  have HR := Lib.hid hr
  clear hr
  have h0 : Below w.heap.size w (w.alloc (.cells #[.slice A n c] 28)) := (Below.refl _ _).alloc (Nat.le_refl _) _
  have H0 := Lib.hid h0
  have HS := Lib.hid ((HR.out.below h0).call h0.size)
  clear h0
  have HV := Lib.hid hv
  have HX := Lib.hid hx
  clear hv hx
  rcases (show (v = false ∧ x < 0) ∨ (v = false ∧ ¬ x < 0) ∨ (v = true ∧ x < 0) by cases v <;> simp at h ⊢ <;> omega) with ⟨rfl, hx0⟩ | ⟨rfl, hx0⟩ | ⟨rfl, hx0⟩
  all_goals
    clear h
    go_enter Try.func49, Try.ntmps49
    go_wp2_with (first | (go_at_call 66; refine (indexOf_v ds s _ _ _ _ HS.out HX.out).mono ?_; rintro e w' ⟨rfl, rfl⟩) | (go_at_call 57; refine (specVE_v ds _ _ _ _ HS.out HV.out).mono ?_; rintro e w' ⟨rfl, hb⟩))
    go_ret
    exact ⟨rfl, H0.out.trans (hb.mono H0.out.size)⟩

set_option maxHeartbeats 2000000 in
theorem specRankOf_yes (ds : List D) (s : ByteArray) (A : Option Addr) (c n : Nat) (w : World) (hr : SD w w.heap.size A n c ds) (hv : vEnum ds = true) (k : Nat) (hk : k < ds.length) (hx : fidx (isNm s) ds = k) :
    Calls Try.prog 49 #[.agg #[.slice A n c], .string s] w fun e w' => e = .returned (.int .i64 (fidx (isVal ds[k].val) (mems ds))) ∧ Below w.heap.size w w' := by
  obtain rfl := hr.len
  have hl := hr.max
  have hl2 := hr.cap
  unfold maxLen at hl
  have HR := Lib.hid hr
  clear hr
  have h0 : Below w.heap.size w (w.alloc (.cells #[.slice A ds.length c] 28)) := (Below.refl _ _).alloc (Nat.le_refl _) _
  have H0 := Lib.hid h0
  have HS := Lib.hid ((HR.out.below h0).call h0.size)
  clear h0
  have HN : Hid (ds.length ≤ 1048576) := Lib.hid (by have := vEnum_len hv; omega)
  have HV := Lib.hid hv
  have HX := Lib.hid hx
  clear hv hx
  have hi1 : (k : Int) < (ds.length : Int) := by omega
  have hi0 : (0 : Int) ≤ (k : Int) := by omega
  go_enter Try.func49, Try.ntmps49
  go_wp2_with (first | (go_at_call 66; refine (indexOf_v ds s _ _ _ _ HS.out HX.out).mono ?_; rintro e w' ⟨rfl, rfl⟩) | (go_at_call 57; refine (specVE_v ds _ _ _ _ HS.out HV.out).mono ?_; rintro e w1 ⟨rfl, hb⟩; have c1 := keep1 hb (show (w.alloc (.cells #[.slice A ds.length c] 28)).cell? ⟨w.heap.size, 0, none⟩ = some (.slice A ds.length c) by simp [go_sem]); have HS1 := Lib.hid ((HS.out.below hb).call hb.size); obtain ⟨b, o, rfl, hbb, d1, d2⟩ := HS1.out.at_ hk; have HB := Lib.hid hb; clear hb))
  go_region_held3 (fun w' => w'.cell? ⟨w.heap.size, 0, none⟩ = some (.slice (some ⟨b, o, none⟩) ds.length c) ∧ w'.cell? ⟨b, o + k * 2 + 1, none⟩ = some (.int .i64 ds[k].val)) (first | go_keep | exact ⟨c2, e2⟩ | exact ⟨c1, d2⟩)
    (first | (go_at_call 71; refine (members_any ds _ _ _ _ (by first | exact HS1.out | exact HS1.out.drew) HN.out).mono ?_; rintro e w2 ⟨A2, k2, rfl, ho2, hb2⟩; replace hb2 : Below w1.heap.size w1 w2 := (by first | exact hb2 | exact undrew hb2); have c2 := keep1 hb2 c1; have e2 := keep1 hb2 d2; have HS2 := Lib.hid (sd_of_own ho2 (mems_ok HR.out.ok))) | (go_at_call 69; refine (valueAt_any (mems ds) _ _ _ _ _ (by first | exact HS2.out | exact HS2.out.drew)).mono ?_; rintro e w3 ⟨rfl, rfl⟩))
  go_wp2
  go_ret
  exact ⟨rfl, H0.out.trans ((HB.out.trans (hb2.mono HB.out.size)).mono H0.out.size)⟩

set_option maxHeartbeats 1000000 in
theorem implRankOf_no (ds : List D) (s : ByteArray) (A : Option Addr) (c n : Nat) (w : World) (hr : SD w w.heap.size A n c ds) {v : Bool} {x : Int} (hv : vEnum ds = v) (hx : fidx (isNm s) ds = x) (h : v = false ∨ x < 0) :
    Calls Try.prog 48 #[.agg #[.slice A n c], .string s] w fun e w' => e = .returned (.int .i64 (-1)) ∧ Below w.heap.size w w' := by
  have HR := Lib.hid hr
  clear hr
  have h0 : Below w.heap.size w (w.alloc (.cells #[.slice A n c] 28)) := (Below.refl _ _).alloc (Nat.le_refl _) _
  have H0 := Lib.hid h0
  have HS := Lib.hid ((HR.out.below h0).call h0.size)
  clear h0
  have HC := Lib.hid (fun (W : World) (hS : SD W W.heap.size A n c ds) => implValueOf_no ds s A c n W hS hv hx h)
  clear hv hx h
  go_enter Try.func48, Try.ntmps48
  go_wp2_with (go_at_call 22; refine (HC.out _ HS.out).mono ?_; rintro e w' ⟨rfl, hb⟩)
  go_ret
  exact ⟨rfl, H0.out.trans (hb.mono H0.out.size)⟩

set_option maxHeartbeats 2000000 in
theorem implRankOf_yes (ds : List D) (s : ByteArray) (A : Option Addr) (c n : Nat) (w : World) (hr : SD w w.heap.size A n c ds) (hv : vEnum ds = true) (k : Nat) (hk : k < ds.length) (hx : fidx (isNm s) ds = k) :
    Calls Try.prog 48 #[.agg #[.slice A n c], .string s] w fun e w' => e = .returned (.int .i64 (fidx (isVal ds[k].val) (mems ds))) ∧ Below w.heap.size w w' := by
  obtain rfl := hr.len
  have hl := hr.max
  have hl2 := hr.cap
  unfold maxLen at hl
  have HR := Lib.hid hr
  clear hr
  have h0 : Below w.heap.size w (w.alloc (.cells #[.slice A ds.length c] 28)) := (Below.refl _ _).alloc (Nat.le_refl _) _
  have H0 := Lib.hid h0
  have HS := Lib.hid ((HR.out.below h0).call h0.size)
  clear h0
  have HC := Lib.hid (fun (W : World) (c n : Nat) (A : Option Addr) (hS : SD W W.heap.size A n c ds) => implValueOf_yes ds s A c n W hS hv k hk hx)
  obtain ⟨j, hj, hf, he, hm, _⟩ := first_of k hk
  have HE : Hid (fidx (isT ds[j].name) (mMembers ds) = fidx (isVal ds[k].val) (mems ds)) := Lib.hid (by
    unfold mMembers
    rw [if_pos hv, fidx_map]
    refine fidx_congr fun d hd => ?_
    rw [← he, mem_value_name hv j hj (by rw [he]; exact hf) d hd]
    unfold isT isNm
    rw [Bool.eq_iff_iff]; simp; exact eq_comm)
  have HV2 := Lib.hid (HR.out.ok _ (List.getElem_mem hk)).2
  have HOK : Hid (∀ t ∈ mMembers ds, t.size ≤ maxLen) := Lib.hid (by
    unfold mMembers
    rw [if_pos hv]
    intro t ht
    simp at ht
    obtain ⟨d, hd, rfl⟩ := ht
    exact (mems_ok HR.out.ok d hd).1)
  have HF := Lib.hid hf
  clear hv hx hf he hm
  have hi1 : (k : Int) < (ds.length : Int) := by omega
  have hi0 : (0 : Int) ≤ (k : Int) := by omega
  have hj1 : (j : Int) < (ds.length : Int) := by omega
  have hj0 : (0 : Int) ≤ (j : Int) := by omega
  go_enter Try.func48, Try.ntmps48
  go_wp2_with (go_at_call 22; refine (HC.out _ _ _ _ HS.out).mono ?_; rintro e w1 ⟨rfl, hb⟩; have c1 := keep1 hb (show (w.alloc (.cells #[.slice A ds.length c] 28)).cell? ⟨w.heap.size, 0, none⟩ = some (.slice A ds.length c) by simp [go_sem]); have HS1 := Lib.hid ((HS.out.below hb).call hb.size); obtain ⟨b, o, rfl, hbb, d1, d2⟩ := HS1.out.at_ hj; have HB := Lib.hid hb; clear hb)
  go_region_held3 (fun w' => w'.cell? ⟨w.heap.size, 0, none⟩ = some (.slice (some ⟨b, o, none⟩) ds.length c) ∧ w'.cell? ⟨b, o + j * 2, none⟩ = some (.string ds[j].name)) (first | go_keep | exact ⟨c2, e2⟩ | exact ⟨c1, d1⟩)
    (first | (go_at_call 58; refine (memberIndexes_any ds _ _ _ _ (by first | exact HS1.out | exact HS1.out.drew)).mono ?_; rintro e w2 ⟨rfl, hi2, hb2⟩; replace hb2 : Below w1.heap.size w1 w2 := (by first | exact hb2 | exact undrew hb2); have c2 := keep1 hb2 c1; have e2 := keep1 hb2 d1; have hlk : (Instr.lookup 64 (.map (some w1.heap.size)) (.int .i64 ds[k].val) false).run Try.prog w2 = .ok (.int .i64 (j : Int)) w2 := (hi2.look1 ds[k].val HV2.out (by simp only [HF.out]; omega)).trans (by simp only [HF.out]); have HS2 := Lib.hid ((HS1.out.below hb2).call hb2.size)))
  clear hlk
  go_wp2_with (first | (go_at_call 21; refine (implMembersOf_any ds _ _ _ _ HS2.out).mono ?_; rintro e w3 ⟨A3, k3, rfl, ho3, hb3⟩; have HS3 := Lib.hid (ss_of_own ho3 HOK.out); have HB3 := Lib.hid hb3; clear ho3 hb3) | (go_at_call 74; refine (sliceIndex_any (mMembers ds) _ _ _ _ _ HS3.out).mono ?_; rintro e w4 ⟨rfl, rfl⟩))
  go_ret
  exact ⟨ret_int HE.out, H0.out.trans ((HB.out.trans ((hb2.trans (HB3.out.mono hb2.size)).mono HB.out.size)).mono H0.out.size)⟩

/-! ### NextMember -/
theorem next_lt {m r : Nat} (h : r < m) : (r + 1) % m < m := Nat.mod_lt _ (by omega)

set_option maxHeartbeats 1000000 in
theorem specNext_no (ds : List D) (s : ByteArray) (A : Option Addr) (c n : Nat) (w : World) (hr : SD w w.heap.size A n c ds) {v : Bool} {x : Int} (hv : vEnum ds = v) (hx : fidx (isNm s) ds = x) (h : v = false ∨ x < 0) :
    Calls Try.prog 52 #[.agg #[.slice A n c], .string s] w fun e w' => e = .returned (.tuple #[.string ⟨#[]⟩, .bool false]) ∧ Below w.heap.size w w' := by
  have HR := Lib.hid hr
  clear hr
  have h0 : Below w.heap.size w (w.alloc (.cells #[.slice A n c] 28)) := (Below.refl _ _).alloc (Nat.le_refl _) _
  have H0 := Lib.hid h0
  have HS := Lib.hid ((HR.out.below h0).call h0.size)
  clear h0
  have HC := Lib.hid (fun (W : World) (hS : SD W W.heap.size A n c ds) => specRankOf_no ds s A c n W hS hv hx h)
  clear hv hx h
  go_enter Try.func52, Try.ntmps52
  go_wp2_with (go_at_call 49; refine (HC.out _ HS.out).mono ?_; rintro e w' ⟨rfl, hb⟩)
  go_ret2
  exact ⟨rfl, H0.out.trans (hb.mono H0.out.size)⟩
set_option maxHeartbeats 1000000 in
theorem implNext_no (ds : List D) (s : ByteArray) (A : Option Addr) (c n : Nat) (w : World) (hr : SD w w.heap.size A n c ds) {v : Bool} {x : Int} (hv : vEnum ds = v) (hx : fidx (isNm s) ds = x) (h : v = false ∨ x < 0) :
    Calls Try.prog 51 #[.agg #[.slice A n c], .string s] w fun e w' => e = .returned (.tuple #[.string ⟨#[]⟩, .bool false]) ∧ Below w.heap.size w w' := by
  have HR := Lib.hid hr
  clear hr
  have h0 : Below w.heap.size w (w.alloc (.cells #[.slice A n c] 28)) := (Below.refl _ _).alloc (Nat.le_refl _) _
  have H0 := Lib.hid h0
  have HS := Lib.hid ((HR.out.below h0).call h0.size)
  clear h0
  have HC := Lib.hid (fun (W : World) (hS : SD W W.heap.size A n c ds) => implRankOf_no ds s A c n W hS hv hx h)
  clear hv hx h
  go_enter Try.func51, Try.ntmps51
  go_wp2_with (go_at_call 48; refine (HC.out _ HS.out).mono ?_; rintro e w' ⟨rfl, hb⟩)
  go_ret2
  exact ⟨rfl, H0.out.trans (hb.mono H0.out.size)⟩

set_option maxHeartbeats 2000000 in
theorem specNext_yes (ds : List D) (s : ByteArray) (A : Option Addr) (c n : Nat) (w : World) (hr : SD w w.heap.size A n c ds) (hv : vEnum ds = true) (k : Nat) (hk : k < ds.length) (hx : fidx (isNm s) ds = k) (r : Nat) (hrl : r < (mems ds).length) (hrk : fidx (isVal ds[k].val) (mems ds) = (r : Int)) :
    Calls Try.prog 52 #[.agg #[.slice A n c], .string s] w fun e w' => e = .returned (.tuple #[.string ((mems ds)[(r + 1) % (mems ds).length]'(next_lt hrl)).name, .bool true]) ∧ Below w.heap.size w w' := by
  have HR := Lib.hid hr
  clear hr
  have h0 : Below w.heap.size w (w.alloc (.cells #[.slice A n c] 28)) := (Below.refl _ _).alloc (Nat.le_refl _) _
  have H0 := Lib.hid h0
  have HS := Lib.hid ((HR.out.below h0).call h0.size)
  clear h0
  have HC := Lib.hid (fun (W : World) (hS : SD W W.heap.size A n c ds) => hrk ▸ specRankOf_yes ds s A c n W hS hv k hk hx)
  have HN : Hid (n ≤ 1048576) := Lib.hid (by have := vEnum_len hv; have := HR.out.len; omega)
  have HM := Lib.hid (mems_ok HR.out.ok)
  have hm12 : (mems ds).length ≤ 12 := by have := vEnum_len hv; have := mems_len (ds := ds); omega
  have hlt := next_lt hrl
  have q1 : ((r : Int) + 1) % ((mems ds).length : Int) < ((mems ds).length : Int) := Int.emod_lt_of_pos _ (by omega)
  have q0 : 0 ≤ ((r : Int) + 1) % ((mems ds).length : Int) := Int.emod_nonneg _ (by omega)
  clear hv hx hrk
  go_enter Try.func52, Try.ntmps52
  go_wp2_with (first | (go_at_call 49; refine (HC.out _ HS.out).mono ?_; rintro e w1 ⟨rfl, hb⟩; have c1 := keep1 hb (show (w.alloc (.cells #[.slice A n c] 28)).cell? ⟨w.heap.size, 0, none⟩ = some (.slice A n c) by simp [go_sem]); have HS1 := Lib.hid ((HS.out.below hb).call hb.size); have HB1 : Hid (Below w.heap.size w w1) := Lib.hid (H0.out.trans (hb.mono H0.out.size)); clear hb) | (go_at_call 71; refine (members_any ds _ _ _ _ HS1.out HN.out).mono ?_; rintro e w2 ⟨A2, k2, rfl, ho, hb⟩; have HS2 := Lib.hid (sd_of_own ho HM.out); have HB2 : Hid (Below w.heap.size w w2) := Lib.hid (HB1.out.trans (hb.mono HB1.out.size)); obtain ⟨b, o, rfl, hbb, d1, d2⟩ := HS2.out.at_ hlt; clear ho hb))
  go_ret2
  exact ⟨rfl, HB2.out⟩

set_option maxHeartbeats 2000000 in
theorem implNext_yes (ds : List D) (s : ByteArray) (A : Option Addr) (c n : Nat) (w : World) (hr : SD w w.heap.size A n c ds) (hv : vEnum ds = true) (k : Nat) (hk : k < ds.length) (hx : fidx (isNm s) ds = k) (r : Nat) (hrl : r < (mems ds).length) (hrk : fidx (isVal ds[k].val) (mems ds) = (r : Int)) :
    Calls Try.prog 51 #[.agg #[.slice A n c], .string s] w fun e w' => e = .returned (.tuple #[.string ((mems ds)[(r + 1) % (mems ds).length]'(next_lt hrl)).name, .bool true]) ∧ Below w.heap.size w w' := by
  have HR := Lib.hid hr
  clear hr
  have h0 : Below w.heap.size w (w.alloc (.cells #[.slice A n c] 28)) := (Below.refl _ _).alloc (Nat.le_refl _) _
  have H0 := Lib.hid h0
  have HS := Lib.hid ((HR.out.below h0).call h0.size)
  clear h0
  have HC := Lib.hid (fun (W : World) (hS : SD W W.heap.size A n c ds) => hrk ▸ implRankOf_yes ds s A c n W hS hv k hk hx)
  have hL : mMembers ds = (mems ds).map (·.name) := by unfold mMembers; rw [if_pos hv]
  have hlt := next_lt hrl
  have hm12 : (mems ds).length ≤ 12 := by have := vEnum_len hv; have := mems_len (ds := ds); omega
  obtain ⟨L, HD, HE1, h2, HE2, HOK⟩ : ∃ L : List ByteArray, Hid (∀ (A : Option Addr) (c n : Nat) (w : World), SD w w.heap.size A n c ds → Calls Try.prog 21 #[.agg #[.slice A n c]] w (StrsP L w)) ∧ Hid (L.length = (mems ds).length) ∧ ∃ h : (r + 1) % (mems ds).length < L.length, Hid (L[(r + 1) % (mems ds).length] = ((mems ds)[(r + 1) % (mems ds).length]'(next_lt hrl)).name) ∧ Hid (∀ t ∈ L, t.size ≤ maxLen) := by
    refine ⟨(mems ds).map (·.name), Lib.hid (by rw [← hL]; exact implMembersOf_any ds), Lib.hid (by simp), by simpa using hlt, Lib.hid (by simp), Lib.hid ?_⟩
    intro t ht
    simp at ht
    obtain ⟨d, hd, rfl⟩ := ht
    exact (mems_ok HR.out.ok d hd).1
  generalize ((mems ds)[(r + 1) % (mems ds).length]'(next_lt hrl)).name = nx at HE2 ⊢
  clear hv hx hrk hL
  generalize (mems ds).length = m at *
  have q1 : ((r : Int) + 1) % (m : Int) < (m : Int) := Int.emod_lt_of_pos _ (by omega)
  have q0 : 0 ≤ ((r : Int) + 1) % (m : Int) := Int.emod_nonneg _ (by omega)
  go_enter Try.func51, Try.ntmps51
  go_wp2_with (first | (go_at_call 48; refine (HC.out _ HS.out).mono ?_; rintro e w1 ⟨rfl, hb⟩; have c1 := keep1 hb (show (w.alloc (.cells #[.slice A n c] 28)).cell? ⟨w.heap.size, 0, none⟩ = some (.slice A n c) by simp [go_sem]); have HS1 := Lib.hid ((HS.out.below hb).call hb.size); have HB1 : Hid (Below w.heap.size w w1) := Lib.hid (H0.out.trans (hb.mono H0.out.size)); clear hb) | (go_at_call 21; refine (HD.out _ _ _ _ HS1.out).mono ?_; rintro e w2 ⟨A2, k2, rfl, ho, hb⟩; rw [HE1.out] at ho; rw [HE1.out]; have HS2 := Lib.hid (ss_of_own ho HOK.out); have HB2 : Hid (Below w.heap.size w w2) := Lib.hid (HB1.out.trans (hb.mono HB1.out.size)); obtain ⟨b, o, rfl, hbb, d1⟩ := HS2.out.at_ h2; rw [HE2.out] at d1; clear ho hb))
  go_ret2
  exact ⟨rfl, HB2.out⟩
end Go.Proofs.Ytjccnahebafepaa
