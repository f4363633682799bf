import Derived.Test.YtboehlffbibgmaaDoorShvP
import Derived.Lib.SplitLaws
import Derived.Lib.AtoiTie
namespace Go.Proofs.YtboehlffbibgmaaDoor
set_option linter.unusedVariables false

/-! ### a text cut at a byte: no program in sight -/
def pcs (c : UInt8) (cur : List UInt8) : List UInt8 → List (List UInt8)
  | [] => [cur]
  | b :: r => if b = c then cur :: pcs c [] r else pcs c (cur ++ [b]) r
def onHead (b : UInt8) : List (List UInt8) → List (List UInt8)
  | [] => []
  | h :: t => (b :: h) :: t
theorem pcs_cons (c b : UInt8) : ∀ (l cur : List UInt8), pcs c (b :: cur) l = onHead b (pcs c cur l)
  | [], cur => rfl
  | x :: r, cur => by
    rw [pcs, pcs]
    split
    · rfl
    · rw [List.cons_append]; exact pcs_cons c b r (cur ++ [x])
theorem splitK_head (c b : UInt8) (h : b ≠ c) : ∀ (k : Nat) (l : List UInt8), Lib.splitK [c] 0 k (b :: l) = onHead b (Lib.splitK [c] 0 k l)
  | 0, l => rfl
  | k + 1, l => by
    have hp : ([c] : List UInt8).isPrefixOf (b :: l) = false := by simp [List.isPrefixOf, Ne.symm h]
    have hix : Lib.index (b :: l) [c] = if Lib.index l [c] == -1 then -1 else Lib.index l [c] + 1 := by rw [Lib.index, hp]; simp
    rw [Lib.splitK, Lib.splitK]
    by_cases hm : Lib.index l [c] = -1
    · rw [hix, if_pos (beq_iff_eq.2 hm), if_pos (by rfl), if_pos (beq_iff_eq.2 hm)]; rfl
    · have hge := Lib.index_ge l [c]
      obtain ⟨j, hj⟩ : ∃ j : Nat, Lib.index l [c] = j := ⟨(Lib.index l [c]).toNat, by omega⟩
      rw [hix, if_neg (fun e => hm (beq_iff_eq.1 e)), hj]
      have e1 : ¬ (((j : Int) + 1) == -1) = true := by rw [beq_iff_eq]; omega
      have e2 : ¬ ((j : Int) == -1) = true := by rw [beq_iff_eq]; omega
      rw [if_neg e1, if_neg e2]
      have t1 : ((j : Int) + 1).toNat = j + 1 := by omega
      rw [t1, Int.toNat_natCast]
      rfl
theorem splitK_pcs (c : UInt8) : ∀ s : List UInt8, Lib.splitK [c] 0 (Lib.count s [c]) s = pcs c [] s
  | [] => by rw [Lib.count_miss (by simp [Lib.index])]; rfl
  | b :: l => by
    by_cases h : b = c
    · subst h
      have hix : Lib.index (b :: l) [b] = 0 := by rw [Lib.index]; simp [List.isPrefixOf]
      rw [Lib.count_cons_eq, Nat.add_comm, Lib.splitK, hix, if_neg (by decide), pcs, if_pos rfl, ← splitK_pcs b l]
      rfl
    · rw [Lib.count_cons_ne b c l h, splitK_head c b h, splitK_pcs c l, pcs, if_neg h, List.nil_append, pcs_cons]
theorem pcs_hit (c : UInt8) : ∀ (l cur r : List UInt8), (∀ b ∈ l, b ≠ c) → pcs c cur (l ++ c :: r) = (cur ++ l) :: pcs c [] r
  | [], cur, r, _ => by rw [List.nil_append, pcs, if_pos rfl, List.append_nil]
  | b :: l, cur, r, h => by
    rw [List.cons_append, pcs, if_neg (h b (List.mem_cons_self ..)), pcs_hit c l _ r (fun x hx => h x (List.mem_cons_of_mem _ hx))]
    simp
theorem pcs_miss (c : UInt8) : ∀ (l cur : List UInt8), (∀ b ∈ l, b ≠ c) → pcs c cur l = [cur ++ l]
  | [], cur, _ => by rw [pcs, List.append_nil]
  | b :: l, cur, h => by
    rw [pcs, if_neg (h b (List.mem_cons_self ..)), pcs_miss c l _ (fun x hx => h x (List.mem_cons_of_mem _ hx))]
    simp
theorem pcs_len (c : UInt8) : ∀ (l cur : List UInt8), (pcs c cur l).length ≤ l.length + 1 ∧ 1 ≤ (pcs c cur l).length
  | [], cur => ⟨Nat.le_refl _, Nat.le_refl _⟩
  | b :: l, cur => by
    rw [pcs]
    split
    · have := pcs_len c l []
      simp only [List.length_cons]; omega
    · have := pcs_len c l (cur ++ [b])
      simp only [List.length_cons]; omega
theorem pcs_size (c : UInt8) : ∀ (l cur : List UInt8), ∀ x ∈ pcs c cur l, x.length ≤ cur.length + l.length
  | [], cur, x, hx => by
    rw [pcs, List.mem_singleton] at hx
    subst hx
    exact Nat.le_refl _
  | b :: l, cur, x, hx => by
    rw [pcs] at hx
    split at hx
    · rcases List.mem_cons.1 hx with rfl | hx
      · omega
      · have := pcs_size c l [] x hx
        simp only [List.length_cons, List.length_nil] at *; omega
    · have := pcs_size c l (cur ++ [b]) x hx
      simp only [List.length_cons, List.length_append, List.length_nil] at *; omega
/-- The parts of a text between the bytes of a kind. -/
def splitT (c : UInt8) (s : ByteArray) : List ByteArray := (pcs c [] s.data.toList).map fun l => ⟨l.toArray⟩
theorem splitT_B (c : UInt8) (s : ByteArray) : Lib.splitB ⟨#[c]⟩ 0 (Lib.countB s ⟨#[c]⟩) s = splitT c s := by
  have h := Lib.splitB_data ⟨#[c]⟩ 0 (Lib.countB s ⟨#[c]⟩) s
  have h2 : Lib.splitK [c] 0 (Lib.countB s ⟨#[c]⟩) s.data.toList = pcs c [] s.data.toList := splitK_pcs c s.data.toList
  have h3 : (Lib.splitB ⟨#[c]⟩ 0 (Lib.countB s ⟨#[c]⟩) s).map (·.data.toList) = pcs c [] s.data.toList := h.trans h2
  unfold splitT
  rw [← h3, List.map_map]
  conv => lhs; rw [← List.map_id (Lib.splitB ⟨#[c]⟩ 0 (Lib.countB s ⟨#[c]⟩) s)]
  refine List.map_congr_left fun x _ => ?_
  rfl
theorem splitT_len (c : UInt8) (s : ByteArray) : (splitT c s).length ≤ s.size + 1 ∧ 1 ≤ (splitT c s).length := by
  unfold splitT
  rw [List.length_map]
  have := pcs_len c s.data.toList []
  have h2 : s.data.toList.length = s.size := Array.length_toList
  omega
theorem splitT_count (c : UInt8) (s : ByteArray) : Lib.countB s ⟨#[c]⟩ + 1 = (splitT c s).length := by
  rw [← splitT_B, Lib.splitB_all ⟨#[c]⟩ (Nat.le_refl 1) 0 _ s rfl]
theorem splitT_size (c : UInt8) (s : ByteArray) : ∀ x ∈ splitT c s, x.size ≤ s.size := by
  intro x hx
  obtain ⟨l, hl, rfl⟩ := List.mem_map.1 hx
  have := pcs_size c s.data.toList [] l hl
  have h2 : s.data.toList.length = s.size := Array.length_toList
  show l.toArray.size ≤ _
  simp only [List.size_toArray, List.length_nil] at *
  omega

/-! ### numbers that are read -/
def rdLoop : List UInt8 → Nat → Option Nat
  | [], n => some n
  | b :: r, n => if 48 ≤ b.toNat ∧ b.toNat ≤ 57 ∧ n ≤ 4095 then rdLoop r (10 * n + (b.toNat - 48)) else none
theorem rdLoop_app : ∀ (l r : List UInt8) (n : Nat), rdLoop (l ++ r) n = (rdLoop l n).bind (rdLoop r)
  | [], r, n => rfl
  | b :: l, r, n => by
    simp only [List.cons_append, rdLoop]
    split
    · exact rdLoop_app l r _
    · rfl
theorem digit_toNat {d : Nat} (h : d < 10) : (UInt8.ofNat (48 + d)).toNat = 48 + d := by
  rw [UInt8.toNat_ofNat']
  omega
theorem rdLoop_one {d n : Nat} (h : d < 10) (hn : n ≤ 4095) : rdLoop [UInt8.ofNat (48 + d)] n = some (10 * n + d) := by
  rw [rdLoop, digit_toNat h, if_pos ⟨by omega, by omega, hn⟩, rdLoop]
  congr 1
  omega
theorem rdLoop_dec (n : Nat) : n ≤ 40959 → rdLoop (Lib.decDigits n) 0 = some n := by
  induction n using Nat.strongRecOn with
  | ind n ih =>
    intro hn
    by_cases h10 : n < 10
    · rw [dec_small h10, rdLoop_one h10 (by omega)]
      congr 1
      omega
    · rw [dec_big h10, rdLoop_app, ih (n / 10) (by omega) (by omega)]
      show rdLoop [UInt8.ofNat (48 + n % 10)] (n / 10) = _
      rw [rdLoop_one (by omega) (by omega)]
      congr 1
      omega
theorem decFrom_app : ∀ (l r : List UInt8) (n : Nat), Lib.decFrom n (l ++ r) = (Lib.decFrom n l).bind fun m => Lib.decFrom m r
  | [], r, n => rfl
  | b :: l, r, n => by
    simp only [List.cons_append, Lib.decFrom]
    cases Lib.digitVal b with
    | none => rfl
    | some d => exact decFrom_app l r _
theorem decFrom_one {d n : Nat} (h : d < 10) : Lib.decFrom n [UInt8.ofNat (48 + d)] = some (n * 10 + d) := by
  have hd : Lib.digitVal (UInt8.ofNat (48 + d)) = some d := by
    unfold Lib.digitVal
    rw [digit_toNat h, if_pos ⟨by omega, by omega⟩]
    congr 1
    omega
  rw [Lib.decFrom, hd]
  rfl
theorem decFrom_dec (n : Nat) : Lib.decFrom 0 (Lib.decDigits n) = some n := by
  induction n using Nat.strongRecOn with
  | ind n ih =>
    by_cases h10 : n < 10
    · rw [dec_small h10, decFrom_one h10]
      congr 1
      omega
    · rw [dec_big h10, decFrom_app, ih (n / 10) (by omega)]
      show Lib.decFrom (n / 10) [UInt8.ofNat (48 + n % 10)] = _
      rw [decFrom_one (by omega)]
      congr 1
      omega
theorem dec_head (n : Nat) : ∃ (d : Nat) (r : List UInt8), d < 10 ∧ Lib.decDigits n = UInt8.ofNat (48 + d) :: r := by
  induction n using Nat.strongRecOn with
  | ind n ih =>
    by_cases h10 : n < 10
    · exact ⟨n, [], h10, dec_small h10⟩
    · obtain ⟨d, r, hd, h⟩ := ih (n / 10) (by omega)
      exact ⟨d, r ++ [UInt8.ofNat (48 + n % 10)], hd, by rw [dec_big h10, h]; rfl⟩
theorem dec_digit (n : Nat) : ∀ b ∈ Lib.decDigits n, 48 ≤ b.toNat ∧ b.toNat ≤ 57 := by
  induction n using Nat.strongRecOn with
  | ind n ih =>
    intro b hb
    by_cases h10 : n < 10
    · rw [dec_small h10, List.mem_singleton] at hb
      subst hb
      rw [digit_toNat h10]; omega
    · rw [dec_big h10] at hb
      rcases List.mem_append.1 hb with hb | hb
      · exact ih (n / 10) (by omega) b hb
      · rw [List.mem_singleton] at hb
        subst hb
        rw [digit_toNat (by omega)]; omega
theorem itoa_len {v : Int} (h0 : -1000000 ≤ v) (h1 : v ≤ 1000000) : (Lib.itoa v).length ≤ 18 := by
  unfold Lib.itoa
  split
  · have := decB_size 7 v.natAbs (by omega)
    have h2 : (decB v.natAbs).size = (Lib.decDigits v.natAbs).length := by unfold decB; simp [ByteArray.size]
    rw [List.length_cons]; omega
  · have := decB_size 7 v.toNat (by omega)
    have h2 : (decB v.toNat).size = (Lib.decDigits v.toNat).length := by unfold decB; simp [ByteArray.size]
    omega
theorem atoi_itoa {v : Int} (h0 : -1000000 ≤ v) (h1 : v ≤ 1000000) : Lib.atoiAll (Lib.itoa v) = .ok v := by
  rw [Lib.atoiAll_short _ (itoa_len h0 h1)]
  have hn : ∀ n, Lib.decNat (Lib.decDigits n) = some n := fun n => by
    obtain ⟨d, r, _, h⟩ := dec_head n
    unfold Lib.decNat
    rw [decFrom_dec, h]
    rfl
  unfold Lib.itoa
  split
  · rw [Lib.atoi, if_pos (by decide), hn]
    show Lib.NumEnd.ok (-(v.natAbs : Int)) = _
    congr 1
    omega
  · obtain ⟨d, r, hd, h⟩ := dec_head v.toNat
    have hb : (UInt8.ofNat (48 + d)).toNat = 48 + d := digit_toNat hd
    rw [h, Lib.atoi, if_neg, if_neg, ← h, hn]
    · show Lib.NumEnd.ok (v.toNat : Int) = _
      congr 1
      omega
    · intro e; rw [beq_iff_eq] at e; rw [e] at hb; have : (43 : UInt8).toNat = 43 := rfl; omega
    · intro e; rw [beq_iff_eq] at e; rw [e] at hb; have : (45 : UInt8).toNat = 45 := rfl; omega
/-- The model's number of a text: -1 if there is none. -/
def mRdN (s : ByteArray) : Int := match rdLoop s.data.toList 0 with
  | some n => if s.size ≠ 0 ∧ n ≤ 4096 ∧ decB n = s then (n : Int) else -1
  | none => -1
theorem mRdN_dec {n : Nat} (h : n ≤ 4096) : mRdN (decB n) = n := by
  have h1 : rdLoop (decB n).data.toList 0 = some n := rdLoop_dec n (by omega)
  have h0 : (decB n).size ≠ 0 := by
    obtain ⟨d, r, _, e⟩ := dec_head n
    unfold decB
    rw [e]
    simp [ByteArray.size]
  unfold mRdN
  rw [h1]
  show (if (decB n).size ≠ 0 ∧ n ≤ 4096 ∧ decB n = decB n then (n : Int) else -1) = _
  rw [if_pos ⟨h0, h, rfl⟩]
theorem mRdN_cases (s : ByteArray) : mRdN s = -1 ∨ ∃ n : Nat, n ≤ 4096 ∧ s = decB n ∧ mRdN s = n := by
  unfold mRdN
  split
  · rename_i n h
    split
    · rename_i h2
      exact .inr ⟨n, h2.2.1, h2.2.2.symm, rfl⟩
    · exact .inl rfl
  · exact .inl rfl
/-- The program's number of a text. -/
def numOf (s : ByteArray) : Option Int := match Lib.atoiAll s.data.toList with
  | .ok v => if itoaB v = s then some v else none
  | _ => none
theorem numOf_itoa {v : Int} (h0 : -1000000 ≤ v) (h1 : v ≤ 1000000) : numOf (itoaB v) = some v := by
  have h : Lib.atoiAll (itoaB v).data.toList = .ok v := atoi_itoa h0 h1
  unfold numOf
  rw [h]
  show (if itoaB v = itoaB v then some v else none) = _
  rw [if_pos rfl]
theorem numOf_some {s : ByteArray} {v : Int} (h : numOf s = some v) : s = itoaB v ∧ -9223372036854775808 ≤ v ∧ v ≤ 9223372036854775807 := by
  unfold numOf at h
  split at h
  · rename_i u hu
    split at h
    · rename_i h2
      cases h
      exact ⟨h2.symm, Lib.atoiAll_bounds hu⟩
    · cases h
  · cases h
/-- Both read the same numbers in 0 .. 4096. -/
theorem numOf_iff (s : ByteArray) (n : Nat) (hn : n ≤ 4096) : numOf s = some (n : Int) ↔ mRdN s = n := by
  constructor
  · intro h
    have := (numOf_some h).1
    rw [this, itoaB_pos]
    exact mRdN_dec hn
  · intro h
    rcases mRdN_cases s with h2 | ⟨m, hm, rfl, h3⟩
    · omega
    · have : m = n := by omega
      subst this
      rw [← itoaB_pos]
      exact numOf_itoa (by omega) (by omega)

/-! ### the value of a text -/
/-- The value of a name or a number; -1 if it is none. -/
def partV (ds : List D) (s : ByteArray) : Int := if 0 ≤ fidx (isNm s) ds then ((ds[(fidx (isNm s) ds).toNat]?).elim 0 D.val) else mRdN s
theorem partV_name {ds : List D} {s : ByteArray} {k : Nat} (hk : k < ds.length) (h : fidx (isNm s) ds = k) : partV ds s = ds[k].val := by
  unfold partV
  rw [h, if_pos (by omega), Int.toNat_natCast, List.getElem?_eq_getElem hk]
  rfl
theorem partV_num {ds : List D} {s : ByteArray} (h : fidx (isNm s) ds < 0) : partV ds s = mRdN s := by
  unfold partV
  rw [if_neg (by omega)]
theorem partV_range {ds : List D} (hin : ∀ d ∈ ds, inR d) (s : ByteArray) : -1 ≤ partV ds s ∧ partV ds s ≤ 4096 := by
  rcases fidx_cases (isNm s) ds with ⟨hx, _⟩ | ⟨k, hk, hx, _, _⟩
  · rw [partV_num (by omega)]
    rcases mRdN_cases s with h | ⟨n, hn, _, h⟩ <;> omega
  · rw [partV_name hk hx]
    have := hin _ (List.getElem_mem hk)
    unfold inR at this
    omega
def rdTo (ds : List D) : List ByteArray → Nat → Option Nat
  | [], a => some a
  | s :: r, a => if 0 ≤ partV ds s ∧ partV ds s ≤ 4095 then rdTo ds r (a ||| (partV ds s).toNat) else none
theorem rdTo_lt {ds : List D} : ∀ (l : List ByteArray) (a m : Nat), a < 4096 → rdTo ds l a = some m → m < 4096
  | [], a, m, ha, h => by rw [rdTo] at h; cases h; exact ha
  | s :: r, a, m, ha, h => by
    rw [rdTo] at h
    split at h
    · rename_i h2
      exact rdTo_lt r _ m (or_lt ha (by omega)) h
    · cases h
/-- The value of a text of a valid class; -1 if there is none. -/
def rdV (ds : List D) (b : Int) (s : ByteArray) : Int := match rdTo ds (splitT 124 s) 0 with
  | some m => if mIsV ds b (m : Int) then (m : Int) else -1
  | none => -1
theorem rdV_none {ds : List D} {b : Int} {s : ByteArray} (h : rdTo ds (splitT 124 s) 0 = none) : rdV ds b s = -1 := by unfold rdV; rw [h]
theorem rdV_some {ds : List D} {b : Int} {s : ByteArray} {m : Nat} (h : rdTo ds (splitT 124 s) 0 = some m) : rdV ds b s = if mIsV ds b (m : Int) then (m : Int) else -1 := by unfold rdV; rw [h]
theorem rdV_cases (ds : List D) (b : Int) (s : ByteArray) : rdV ds b s = -1 ∨ ∃ m : Nat, m < 4096 ∧ mIsV ds b (m : Int) = true ∧ rdV ds b s = m ∧ rdTo ds (splitT 124 s) 0 = some m := by
  cases h : rdTo ds (splitT 124 s) 0 with
  | none => exact .inl (rdV_none h)
  | some m =>
    rw [rdV_some h]
    split
    · rename_i h2
      exact .inr ⟨m, rdTo_lt _ 0 m (by decide) h, h2, rfl, rfl⟩
    · exact .inl rfl
def mRead (ds : List D) (b : Int) (s : ByteArray) : Int := if vFlag ds b && decide (0 ≤ rdV ds b s) then rdV ds b s else 0
def mReadOk (ds : List D) (b : Int) (s : ByteArray) : Bool := vFlag ds b && decide (0 ≤ rdV ds b s)
end Go.Proofs.YtboehlffbibgmaaDoor
