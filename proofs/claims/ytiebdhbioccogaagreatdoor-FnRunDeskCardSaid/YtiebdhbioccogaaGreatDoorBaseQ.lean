import Derived.Test.YtiebdhbioccogaaGreatDoorShwP
import Derived.Test.YtiebdhbioccogaaGreatDoorFewP
import Derived.Test.YtiebdhbioccogaaGreatDoorShowA
import Derived.Lib.Join
import Derived.Lib.SplitLaws
import Derived.Lib.AtoiTie
import Derived.Test.YtiebdhbioccogaaGreatDoorBaseE
namespace Go.Proofs.YtiebdhbioccogaaGreatDoor
set_option linter.unusedVariables false

/-! ### texts of values: no program in sight -/
def joinW (ss : List ByteArray) (sep : ByteArray) : ByteArray := ⟨(Lib.join (ss.map (·.data.toList)) sep.data.toList).toArray⟩
def bar : ByteArray := ⟨#[124]⟩
theorem joinW_nil (sep : ByteArray) : joinW [] sep = ⟨#[]⟩ := rfl
theorem nil_app (s : ByteArray) : (⟨#[]⟩ : ByteArray) ++ s = s := by
  apply ByteArray.ext
  rw [ByteArray.data_append]
  simp
theorem joinW_one (s sep : ByteArray) : joinW [s] sep = s := by
  apply ByteArray.ext
  unfold joinW
  rw [List.map_cons, List.map_nil, Lib.join_one]
theorem joinW_snoc {ss : List ByteArray} (h : ss ≠ []) (s sep : ByteArray) : joinW (ss ++ [s]) sep = (joinW ss sep ++ sep) ++ s := by
  cases ss with
  | nil => exact absurd rfl h
  | cons x r =>
    apply ByteArray.ext
    rw [ByteArray.data_append, ByteArray.data_append]
    unfold joinW
    rw [List.cons_append, List.map_cons, List.map_cons, List.map_append, Lib.join_cons, Lib.join_cons]
    simp [Lib.joinTail]
theorem joinW_step (ss : List ByteArray) (sep : ByteArray) (k : Nat) (hk : k < ss.length) : joinW (ss.take (k + 1)) sep = (if k = 0 then joinW (ss.take k) sep else joinW (ss.take k) sep ++ sep) ++ ss[k] := by
  rw [List.take_succ_eq_append_getElem hk]
  by_cases h : k = 0
  · subst h
    rw [if_pos rfl, List.take_zero, List.nil_append, joinW_one, joinW_nil, nil_app]
  · rw [if_neg h]
    refine joinW_snoc ?_ _ _
    intro e
    have h2 : (ss.take k).length = 0 := by rw [e]; rfl
    rw [List.length_take] at h2
    omega
theorem joinW_size {ss : List ByteArray} {sep : ByteArray} {M : Nat} (hM : ∀ s ∈ ss, s.size ≤ M) : ∀ k, k ≤ ss.length → (joinW (ss.take k) sep).size ≤ (M + sep.size) * k := by
  intro k
  induction k with
  | zero => intro _; exact Nat.zero_le _
  | succ k ih =>
    intro hk
    have h1 := ih (by omega)
    have h2 := hM _ (List.getElem_mem (show k < ss.length by omega))
    rw [joinW_step ss sep k (by omega), Nat.mul_succ, ByteArray.size_append]
    split
    · omega
    · rw [ByteArray.size_append]; omega
/-- The rest of a value as a text, where there is one. -/
def restW (r : Nat) : List ByteArray := if r = 0 then [] else [decB r]
def zeroT (ds : List D) : ByteArray := if 0 ≤ fidx (isVal 0) ds then (ds[(fidx (isVal 0) ds).toNat]?).elim ⟨#[]⟩ D.name else ⟨#[48]⟩
theorem zeroT_yes {ds : List D} {k : Nat} (hk : k < ds.length) (h : fidx (isVal 0) ds = k) : zeroT ds = ds[k].name := by
  unfold zeroT
  rw [h, if_pos (by omega), Int.toNat_natCast, List.getElem?_eq_getElem hk]
  rfl
theorem zeroT_no {ds : List D} (h : fidx (isVal 0) ds < 0) : zeroT ds = ⟨#[48]⟩ := by unfold zeroT; rw [if_neg (by omega)]
def textW (ds : List D) (ws : List ByteArray) : ByteArray := if ws = [] then zeroT ds else joinW ws bar
/-- The text of a value, of the names of some definitions. -/
def mText (ds l : List D) (a : Nat) : ByteArray := textW ds (l.map D.name ++ restW (nl a (mMask l)))
def mShowV (ds : List D) (b x : Int) : ByteArray := if mIsV ds b x then mText ds (mIn ds x.toNat) x.toNat else ⟨#[]⟩
def mShowSh (ds : List D) (b x : Int) : ByteArray := if mIsV ds b x then mText ds (mShortL (mFit ds x.toNat)) x.toNat else ⟨#[]⟩
theorem flag_name6 {ds : List D} {b : Int} (hv : vFlag ds b = true) {d : D} (hd : d ∈ ds) : d.name.size ≤ 6 := by
  obtain ⟨i, hi, rfl⟩ := List.mem_iff_getElem.1 hd
  have := vDefs_good (vFlag_defs hv) i hi hi
  unfold goodAt at this
  simp only [Bool.and_eq_true] at this
  have := this.1.1
  unfold vName at this
  simp only [Bool.and_eq_true, decide_eq_true_eq] at this
  exact this.1.2
end Go.Proofs.YtiebdhbioccogaaGreatDoor

namespace Go.Proofs.YtiebdhbioccogaaGreatDoor
set_option linter.unusedVariables false

/-! ### a text cut at a byte: no program in sight -/
def pcs (c : UInt8) (cur : List UInt8) : List UInt8 → List (List UInt8)
  | [] => [cur]
  | b :: r => if b = c then cur :: pcs c [] r else pcs c (cur ++ [b]) r
def onHead (b : UInt8) : List (List UInt8) → List (List UInt8)
  | [] => []
  | h :: t => (b :: h) :: t
theorem pcs_cons (c b : UInt8) : ∀ (l cur : List UInt8), pcs c (b :: cur) l = onHead b (pcs c cur l)
  | [], cur => rfl
  | x :: r, cur => by
    rw [pcs, pcs]
    split
    · rfl
    · rw [List.cons_append]; exact pcs_cons c b r (cur ++ [x])
theorem splitK_head (c b : UInt8) (h : b ≠ c) : ∀ (k : Nat) (l : List UInt8), Lib.splitK [c] 0 k (b :: l) = onHead b (Lib.splitK [c] 0 k l)
  | 0, l => rfl
  | k + 1, l => by
    have hp : ([c] : List UInt8).isPrefixOf (b :: l) = false := by simp [List.isPrefixOf, Ne.symm h]
    have hix : Lib.index (b :: l) [c] = if Lib.index l [c] == -1 then -1 else Lib.index l [c] + 1 := by rw [Lib.index, hp]; simp
    rw [Lib.splitK, Lib.splitK]
    by_cases hm : Lib.index l [c] = -1
    · rw [hix, if_pos (beq_iff_eq.2 hm), if_pos (by rfl), if_pos (beq_iff_eq.2 hm)]; rfl
    · have hge := Lib.index_ge l [c]
      obtain ⟨j, hj⟩ : ∃ j : Nat, Lib.index l [c] = j := ⟨(Lib.index l [c]).toNat, by omega⟩
      rw [hix, if_neg (fun e => hm (beq_iff_eq.1 e)), hj]
      have e1 : ¬ (((j : Int) + 1) == -1) = true := by rw [beq_iff_eq]; omega
      have e2 : ¬ ((j : Int) == -1) = true := by rw [beq_iff_eq]; omega
      rw [if_neg e1, if_neg e2]
      have t1 : ((j : Int) + 1).toNat = j + 1 := by omega
      rw [t1, Int.toNat_natCast]
      rfl
theorem splitK_pcs (c : UInt8) : ∀ s : List UInt8, Lib.splitK [c] 0 (Lib.count s [c]) s = pcs c [] s
  | [] => by rw [Lib.count_miss (by simp [Lib.index])]; rfl
  | b :: l => by
    by_cases h : b = c
    · subst h
      have hix : Lib.index (b :: l) [b] = 0 := by rw [Lib.index]; simp [List.isPrefixOf]
      rw [Lib.count_cons_eq, Nat.add_comm, Lib.splitK, hix, if_neg (by decide), pcs, if_pos rfl, ← splitK_pcs b l]
      rfl
    · rw [Lib.count_cons_ne b c l h, splitK_head c b h, splitK_pcs c l, pcs, if_neg h, List.nil_append, pcs_cons]
theorem pcs_hit (c : UInt8) : ∀ (l cur r : List UInt8), (∀ b ∈ l, b ≠ c) → pcs c cur (l ++ c :: r) = (cur ++ l) :: pcs c [] r
  | [], cur, r, _ => by rw [List.nil_append, pcs, if_pos rfl, List.append_nil]
  | b :: l, cur, r, h => by
    rw [List.cons_append, pcs, if_neg (h b (List.mem_cons_self ..)), pcs_hit c l _ r (fun x hx => h x (List.mem_cons_of_mem _ hx))]
    simp
theorem pcs_miss (c : UInt8) : ∀ (l cur : List UInt8), (∀ b ∈ l, b ≠ c) → pcs c cur l = [cur ++ l]
  | [], cur, _ => by rw [pcs, List.append_nil]
  | b :: l, cur, h => by
    rw [pcs, if_neg (h b (List.mem_cons_self ..)), pcs_miss c l _ (fun x hx => h x (List.mem_cons_of_mem _ hx))]
    simp
theorem pcs_len (c : UInt8) : ∀ (l cur : List UInt8), (pcs c cur l).length ≤ l.length + 1 ∧ 1 ≤ (pcs c cur l).length
  | [], cur => ⟨Nat.le_refl _, Nat.le_refl _⟩
  | b :: l, cur => by
    rw [pcs]
    split
    · have := pcs_len c l []
      simp only [List.length_cons]; omega
    · have := pcs_len c l (cur ++ [b])
      simp only [List.length_cons]; omega
theorem pcs_size (c : UInt8) : ∀ (l cur : List UInt8), ∀ x ∈ pcs c cur l, x.length ≤ cur.length + l.length
  | [], cur, x, hx => by
    rw [pcs, List.mem_singleton] at hx
    subst hx
    exact Nat.le_refl _
  | b :: l, cur, x, hx => by
    rw [pcs] at hx
    split at hx
    · rcases List.mem_cons.1 hx with rfl | hx
      · omega
      · have := pcs_size c l [] x hx
        simp only [List.length_cons, List.length_nil] at *; omega
    · have := pcs_size c l (cur ++ [b]) x hx
      simp only [List.length_cons, List.length_append, List.length_nil] at *; omega
/-- The parts of a text between the bytes of a kind. -/
def splitT (c : UInt8) (s : ByteArray) : List ByteArray := (pcs c [] s.data.toList).map fun l => ⟨l.toArray⟩
theorem splitT_B (c : UInt8) (s : ByteArray) : Lib.splitB ⟨#[c]⟩ 0 (Lib.countB s ⟨#[c]⟩) s = splitT c s := by
  have h := Lib.splitB_data ⟨#[c]⟩ 0 (Lib.countB s ⟨#[c]⟩) s
  have h2 : Lib.splitK [c] 0 (Lib.countB s ⟨#[c]⟩) s.data.toList = pcs c [] s.data.toList := splitK_pcs c s.data.toList
  have h3 : (Lib.splitB ⟨#[c]⟩ 0 (Lib.countB s ⟨#[c]⟩) s).map (·.data.toList) = pcs c [] s.data.toList := h.trans h2
  unfold splitT
  rw [← h3, List.map_map]
  conv => lhs; rw [← List.map_id (Lib.splitB ⟨#[c]⟩ 0 (Lib.countB s ⟨#[c]⟩) s)]
  refine List.map_congr_left fun x _ => ?_
  rfl
theorem splitT_len (c : UInt8) (s : ByteArray) : (splitT c s).length ≤ s.size + 1 ∧ 1 ≤ (splitT c s).length := by
  unfold splitT
  rw [List.length_map]
  have := pcs_len c s.data.toList []
  have h2 : s.data.toList.length = s.size := Array.length_toList
  omega
theorem splitT_count (c : UInt8) (s : ByteArray) : Lib.countB s ⟨#[c]⟩ + 1 = (splitT c s).length := by
  rw [← splitT_B, Lib.splitB_all ⟨#[c]⟩ (Nat.le_refl 1) 0 _ s rfl]
theorem splitT_size (c : UInt8) (s : ByteArray) : ∀ x ∈ splitT c s, x.size ≤ s.size := by
  intro x hx
  obtain ⟨l, hl, rfl⟩ := List.mem_map.1 hx
  have := pcs_size c s.data.toList [] l hl
  have h2 : s.data.toList.length = s.size := Array.length_toList
  show l.toArray.size ≤ _
  simp only [List.size_toArray, List.length_nil] at *
  omega

/-! ### numbers that are read -/
def rdLoop : List UInt8 → Nat → Option Nat
  | [], n => some n
  | b :: r, n => if 48 ≤ b.toNat ∧ b.toNat ≤ 57 ∧ n ≤ 4095 then rdLoop r (10 * n + (b.toNat - 48)) else none
theorem rdLoop_app : ∀ (l r : List UInt8) (n : Nat), rdLoop (l ++ r) n = (rdLoop l n).bind (rdLoop r)
  | [], r, n => rfl
  | b :: l, r, n => by
    simp only [List.cons_append, rdLoop]
    split
    · exact rdLoop_app l r _
    · rfl
theorem digit_toNat {d : Nat} (h : d < 10) : (UInt8.ofNat (48 + d)).toNat = 48 + d := by
  rw [UInt8.toNat_ofNat']
  omega
theorem rdLoop_one {d n : Nat} (h : d < 10) (hn : n ≤ 4095) : rdLoop [UInt8.ofNat (48 + d)] n = some (10 * n + d) := by
  rw [rdLoop, digit_toNat h, if_pos ⟨by omega, by omega, hn⟩, rdLoop]
  congr 1
  omega
theorem rdLoop_dec (n : Nat) : n ≤ 40959 → rdLoop (Lib.decDigits n) 0 = some n := by
  induction n using Nat.strongRecOn with
  | ind n ih =>
    intro hn
    by_cases h10 : n < 10
    · rw [dec_small h10, rdLoop_one h10 (by omega)]
      congr 1
      omega
    · rw [dec_big h10, rdLoop_app, ih (n / 10) (by omega) (by omega)]
      show rdLoop [UInt8.ofNat (48 + n % 10)] (n / 10) = _
      rw [rdLoop_one (by omega) (by omega)]
      congr 1
      omega
theorem decFrom_app : ∀ (l r : List UInt8) (n : Nat), Lib.decFrom n (l ++ r) = (Lib.decFrom n l).bind fun m => Lib.decFrom m r
  | [], r, n => rfl
  | b :: l, r, n => by
    simp only [List.cons_append, Lib.decFrom]
    cases Lib.digitVal b with
    | none => rfl
    | some d => exact decFrom_app l r _
theorem decFrom_one {d n : Nat} (h : d < 10) : Lib.decFrom n [UInt8.ofNat (48 + d)] = some (n * 10 + d) := by
  have hd : Lib.digitVal (UInt8.ofNat (48 + d)) = some d := by
    unfold Lib.digitVal
    rw [digit_toNat h, if_pos ⟨by omega, by omega⟩]
    congr 1
    omega
  rw [Lib.decFrom, hd]
  rfl
theorem decFrom_dec (n : Nat) : Lib.decFrom 0 (Lib.decDigits n) = some n := by
  induction n using Nat.strongRecOn with
  | ind n ih =>
    by_cases h10 : n < 10
    · rw [dec_small h10, decFrom_one h10]
      congr 1
      omega
    · rw [dec_big h10, decFrom_app, ih (n / 10) (by omega)]
      show Lib.decFrom (n / 10) [UInt8.ofNat (48 + n % 10)] = _
      rw [decFrom_one (by omega)]
      congr 1
      omega
theorem dec_head (n : Nat) : ∃ (d : Nat) (r : List UInt8), d < 10 ∧ Lib.decDigits n = UInt8.ofNat (48 + d) :: r := by
  induction n using Nat.strongRecOn with
  | ind n ih =>
    by_cases h10 : n < 10
    · exact ⟨n, [], h10, dec_small h10⟩
    · obtain ⟨d, r, hd, h⟩ := ih (n / 10) (by omega)
      exact ⟨d, r ++ [UInt8.ofNat (48 + n % 10)], hd, by rw [dec_big h10, h]; rfl⟩
theorem dec_digit (n : Nat) : ∀ b ∈ Lib.decDigits n, 48 ≤ b.toNat ∧ b.toNat ≤ 57 := by
  induction n using Nat.strongRecOn with
  | ind n ih =>
    intro b hb
    by_cases h10 : n < 10
    · rw [dec_small h10, List.mem_singleton] at hb
      subst hb
      rw [digit_toNat h10]; omega
    · rw [dec_big h10] at hb
      rcases List.mem_append.1 hb with hb | hb
      · exact ih (n / 10) (by omega) b hb
      · rw [List.mem_singleton] at hb
        subst hb
        rw [digit_toNat (by omega)]; omega
theorem itoa_len {v : Int} (h0 : -1000000 ≤ v) (h1 : v ≤ 1000000) : (Lib.itoa v).length ≤ 18 := by
  unfold Lib.itoa
  split
  · have := decB_size 7 v.natAbs (by omega)
    have h2 : (decB v.natAbs).size = (Lib.decDigits v.natAbs).length := by unfold decB; simp [ByteArray.size]
    rw [List.length_cons]; omega
  · have := decB_size 7 v.toNat (by omega)
    have h2 : (decB v.toNat).size = (Lib.decDigits v.toNat).length := by unfold decB; simp [ByteArray.size]
    omega
theorem atoi_itoa {v : Int} (h0 : -1000000 ≤ v) (h1 : v ≤ 1000000) : Lib.atoiAll (Lib.itoa v) = .ok v := by
  rw [Lib.atoiAll_short _ (itoa_len h0 h1)]
  have hn : ∀ n, Lib.decNat (Lib.decDigits n) = some n := fun n => by
    obtain ⟨d, r, _, h⟩ := dec_head n
    unfold Lib.decNat
    rw [decFrom_dec, h]
    rfl
  unfold Lib.itoa
  split
  · rw [Lib.atoi, if_pos (by decide), hn]
    show Lib.NumEnd.ok (-(v.natAbs : Int)) = _
    congr 1
    omega
  · obtain ⟨d, r, hd, h⟩ := dec_head v.toNat
    have hb : (UInt8.ofNat (48 + d)).toNat = 48 + d := digit_toNat hd
    rw [h, Lib.atoi, if_neg, if_neg, ← h, hn]
    · show Lib.NumEnd.ok (v.toNat : Int) = _
      congr 1
      omega
    · intro e; rw [beq_iff_eq] at e; rw [e] at hb; have : (43 : UInt8).toNat = 43 := rfl; omega
    · intro e; rw [beq_iff_eq] at e; rw [e] at hb; have : (45 : UInt8).toNat = 45 := rfl; omega
/-- The model's number of a text: -1 if there is none. -/
def mRdN (s : ByteArray) : Int := match rdLoop s.data.toList 0 with
  | some n => if s.size ≠ 0 ∧ n ≤ 4096 ∧ decB n = s then (n : Int) else -1
  | none => -1
theorem mRdN_dec {n : Nat} (h : n ≤ 4096) : mRdN (decB n) = n := by
  have h1 : rdLoop (decB n).data.toList 0 = some n := rdLoop_dec n (by omega)
  have h0 : (decB n).size ≠ 0 := by
    obtain ⟨d, r, _, e⟩ := dec_head n
    unfold decB
    rw [e]
    simp [ByteArray.size]
  unfold mRdN
  rw [h1]
  show (if (decB n).size ≠ 0 ∧ n ≤ 4096 ∧ decB n = decB n then (n : Int) else -1) = _
  rw [if_pos ⟨h0, h, rfl⟩]
theorem mRdN_cases (s : ByteArray) : mRdN s = -1 ∨ ∃ n : Nat, n ≤ 4096 ∧ s = decB n ∧ mRdN s = n := by
  unfold mRdN
  split
  · rename_i n h
    split
    · rename_i h2
      exact .inr ⟨n, h2.2.1, h2.2.2.symm, rfl⟩
    · exact .inl rfl
  · exact .inl rfl
/-- The program's number of a text. -/
def numOf (s : ByteArray) : Option Int := match Lib.atoiAll s.data.toList with
  | .ok v => if itoaB v = s then some v else none
  | _ => none
theorem numOf_itoa {v : Int} (h0 : -1000000 ≤ v) (h1 : v ≤ 1000000) : numOf (itoaB v) = some v := by
  have h : Lib.atoiAll (itoaB v).data.toList = .ok v := atoi_itoa h0 h1
  unfold numOf
  rw [h]
  show (if itoaB v = itoaB v then some v else none) = _
  rw [if_pos rfl]
theorem numOf_some {s : ByteArray} {v : Int} (h : numOf s = some v) : s = itoaB v ∧ -9223372036854775808 ≤ v ∧ v ≤ 9223372036854775807 := by
  unfold numOf at h
  split at h
  · rename_i u hu
    split at h
    · rename_i h2
      cases h
      exact ⟨h2.symm, Lib.atoiAll_bounds hu⟩
    · cases h
  · cases h
/-- Both read the same numbers in 0 .. 4096. -/
theorem numOf_iff (s : ByteArray) (n : Nat) (hn : n ≤ 4096) : numOf s = some (n : Int) ↔ mRdN s = n := by
  constructor
  · intro h
    have := (numOf_some h).1
    rw [this, itoaB_pos]
    exact mRdN_dec hn
  · intro h
    rcases mRdN_cases s with h2 | ⟨m, hm, rfl, h3⟩
    · omega
    · have : m = n := by omega
      subst this
      rw [← itoaB_pos]
      exact numOf_itoa (by omega) (by omega)

/-! ### the value of a text -/
/-- The value of a name or a number; -1 if it is none. -/
def partV (ds : List D) (s : ByteArray) : Int := if 0 ≤ fidx (isNm s) ds then ((ds[(fidx (isNm s) ds).toNat]?).elim 0 D.val) else mRdN s
theorem partV_name {ds : List D} {s : ByteArray} {k : Nat} (hk : k < ds.length) (h : fidx (isNm s) ds = k) : partV ds s = ds[k].val := by
  unfold partV
  rw [h, if_pos (by omega), Int.toNat_natCast, List.getElem?_eq_getElem hk]
  rfl
theorem partV_num {ds : List D} {s : ByteArray} (h : fidx (isNm s) ds < 0) : partV ds s = mRdN s := by
  unfold partV
  rw [if_neg (by omega)]
theorem partV_range {ds : List D} (hin : ∀ d ∈ ds, inR d) (s : ByteArray) : -1 ≤ partV ds s ∧ partV ds s ≤ 4096 := by
  rcases fidx_cases (isNm s) ds with ⟨hx, _⟩ | ⟨k, hk, hx, _, _⟩
  · rw [partV_num (by omega)]
    rcases mRdN_cases s with h | ⟨n, hn, _, h⟩ <;> omega
  · rw [partV_name hk hx]
    have := hin _ (List.getElem_mem hk)
    unfold inR at this
    omega
def rdTo (ds : List D) : List ByteArray → Nat → Option Nat
  | [], a => some a
  | s :: r, a => if 0 ≤ partV ds s ∧ partV ds s ≤ 4095 then rdTo ds r (a ||| (partV ds s).toNat) else none
theorem rdTo_lt {ds : List D} : ∀ (l : List ByteArray) (a m : Nat), a < 4096 → rdTo ds l a = some m → m < 4096
  | [], a, m, ha, h => by rw [rdTo] at h; cases h; exact ha
  | s :: r, a, m, ha, h => by
    rw [rdTo] at h
    split at h
    · rename_i h2
      exact rdTo_lt r _ m (or_lt ha (by omega)) h
    · cases h
/-- The value of a text of a valid class; -1 if there is none. -/
def rdV (ds : List D) (b : Int) (s : ByteArray) : Int := match rdTo ds (splitT 124 s) 0 with
  | some m => if mIsV ds b (m : Int) then (m : Int) else -1
  | none => -1
theorem rdV_none {ds : List D} {b : Int} {s : ByteArray} (h : rdTo ds (splitT 124 s) 0 = none) : rdV ds b s = -1 := by unfold rdV; rw [h]
theorem rdV_some {ds : List D} {b : Int} {s : ByteArray} {m : Nat} (h : rdTo ds (splitT 124 s) 0 = some m) : rdV ds b s = if mIsV ds b (m : Int) then (m : Int) else -1 := by unfold rdV; rw [h]
theorem rdV_cases (ds : List D) (b : Int) (s : ByteArray) : rdV ds b s = -1 ∨ ∃ m : Nat, m < 4096 ∧ mIsV ds b (m : Int) = true ∧ rdV ds b s = m ∧ rdTo ds (splitT 124 s) 0 = some m := by
  cases h : rdTo ds (splitT 124 s) 0 with
  | none => exact .inl (rdV_none h)
  | some m =>
    rw [rdV_some h]
    split
    · rename_i h2
      exact .inr ⟨m, rdTo_lt _ 0 m (by decide) h, h2, rfl, rfl⟩
    · exact .inl rfl
def mRead (ds : List D) (b : Int) (s : ByteArray) : Int := if vFlag ds b && decide (0 ≤ rdV ds b s) then rdV ds b s else 0
def mReadOk (ds : List D) (b : Int) (s : ByteArray) : Bool := vFlag ds b && decide (0 ≤ rdV ds b s)
end Go.Proofs.YtiebdhbioccogaaGreatDoor

namespace Go.Proofs.YtiebdhbioccogaaGreatDoor
set_option linter.unusedVariables false

/-! ### texts of values are read back: no program in sight -/
theorem fname_idx {ds : List D} {b : Int} (hv : vFlag ds b = true) (j : Nat) (hj : j < ds.length) : fidx (isNm ds[j].name) ds = (j : Int) := by
  have hg := vDefs_good (vFlag_defs hv) j hj hj
  unfold goodAt at hg
  simp only [Bool.and_eq_true, decide_eq_true_eq] at hg
  refine fidx_some ?_ hj (by unfold isNm; simp)
  intro i hi hij
  have h2 := hg.2
  rcases fidx_cases (isNm ds[j].name) (ds.take j) with ⟨_, hn⟩ | ⟨k, _, h3, _⟩
  · have := hn i (by rw [List.length_take]; omega) (by rw [List.length_take]; omega)
    rwa [List.getElem_take] at this
  · omega
theorem fname_ok {ds : List D} {b : Int} (hv : vFlag ds b = true) {d : D} (hd : d ∈ ds) : ∀ c ∈ d.name.data.toList, okB c = true := by
  obtain ⟨i, hi, rfl⟩ := List.mem_iff_getElem.1 hd
  have hg := vDefs_good (vFlag_defs hv) i hi hi
  unfold goodAt vName okTo at hg
  simp only [Bool.and_eq_true, decide_eq_true_eq] at hg
  have h := hg.1.1.2
  rw [List.take_of_length_le (by rw [Array.length_toList]; exact Nat.le_refl _), List.all_eq_true] at h
  exact h
theorem fname_pos {ds : List D} {b : Int} (hv : vFlag ds b = true) {d : D} (hd : d ∈ ds) : d.name.data.toList ≠ [] := by
  obtain ⟨i, hi, rfl⟩ := List.mem_iff_getElem.1 hd
  have hg := vDefs_good (vFlag_defs hv) i hi hi
  unfold goodAt vName at hg
  simp only [Bool.and_eq_true, decide_eq_true_eq] at hg
  have h := hg.1.1.1.1
  intro e
  have h2 : ds[i].name.size = ds[i].name.data.toList.length := (Array.length_toList).symm
  rw [e, List.length_nil] at h2
  rw [h2] at h
  exact absurd h (by decide)
theorem fname_bar {ds : List D} {b : Int} (hv : vFlag ds b = true) {d : D} (hd : d ∈ ds) : ∀ c ∈ d.name.data.toList, c ≠ 124 := by
  intro c hc e
  have := fname_ok hv hd c hc
  subst e
  exact absurd this (by decide)
theorem dec_bar (n : Nat) : ∀ c ∈ (decB n).data.toList, c ≠ 124 := by
  intro c hc e
  have := dec_digit n c hc
  subst e
  have : (124 : UInt8).toNat = 124 := rfl
  omega
/-- A number's text is no name. -/
theorem dec_noname {ds : List D} {b : Int} (hv : vFlag ds b = true) (n : Nat) : fidx (isNm (decB n)) ds < 0 := by
  rcases fidx_cases (isNm (decB n)) ds with ⟨h, _⟩ | ⟨k, hk, _, hp, _⟩
  · omega
  · have e : ds[k].name = decB n := isNm_iff.1 hp
    obtain ⟨d, r, hd, h⟩ := dec_head n
    have h1 := fname_ok hv (List.getElem_mem hk) (UInt8.ofNat (48 + d)) (by rw [e]; show _ ∈ (Lib.decDigits n); rw [h]; exact List.mem_cons_self ..)
    unfold okB at h1
    simp only [Bool.and_eq_true, decide_eq_true_eq] at h1
    have := digit_toNat hd
    omega
theorem partV_dec {ds : List D} {b : Int} (hv : vFlag ds b = true) {n : Nat} (h : n ≤ 4096) : partV ds (decB n) = n := by
  rw [partV_num (dec_noname hv n), mRdN_dec h]
theorem partV_mem {ds : List D} {b : Int} (hv : vFlag ds b = true) {d : D} (hd : d ∈ ds) : partV ds d.name = d.val := by
  obtain ⟨i, hi, rfl⟩ := List.mem_iff_getElem.1 hd
  exact partV_name hi (fname_idx hv i hi)
theorem rdTo_names {ds : List D} {b : Int} (hv : vFlag ds b = true) (t : List ByteArray) : ∀ (l : List D) (a : Nat), (∀ d ∈ l, d ∈ ds) → rdTo ds (l.map (·.name) ++ t) a = rdTo ds t (a ||| mMask l)
  | [], a, _ => by rw [mMask_nil]; simp
  | d :: l, a, h => by
    have hd := h d (List.mem_cons_self ..)
    have hr := vFlag_in hv d hd
    unfold inR at hr
    rw [List.map_cons, List.cons_append, rdTo, partV_mem hv hd, if_pos hr, rdTo_names hv t l _ (fun x hx => h x (List.mem_cons_of_mem _ hx))]
    rw [show mMask (d :: l) = mMask ([d] ++ l) from rfl, mMask_app, ← Nat.or_assoc]
    congr 3
    show d.val.toNat = 0 ||| d.val.toNat
    rw [Nat.zero_or]
theorem joinTail_pcs (c : UInt8) : ∀ (ws : List (List UInt8)) (cur : List UInt8), (∀ x ∈ ws, ∀ b ∈ x, b ≠ c) → pcs c cur (Lib.joinTail [c] ws) = cur :: ws
  | [], cur, _ => rfl
  | x :: r, cur, h => by
    have h1 := h x (List.mem_cons_self ..)
    have h2 : ∀ y ∈ r, ∀ b ∈ y, b ≠ c := fun y hy => h y (List.mem_cons_of_mem _ hy)
    have e : Lib.joinTail [c] (x :: r) = c :: (x ++ Lib.joinTail [c] r) := by simp [Lib.joinTail]
    rw [e, pcs, if_pos rfl, pcs_app c x [] _ h1, List.nil_append, joinTail_pcs c r x h2]
where
  pcs_app (c : UInt8) : ∀ (l cur r : List UInt8), (∀ b ∈ l, b ≠ c) → pcs c cur (l ++ r) = pcs c (cur ++ l) r
    | [], cur, r, _ => by simp
    | b :: l, cur, r, h => by
      rw [List.cons_append, pcs, if_neg (h b (List.mem_cons_self ..)), pcs_app c l _ r (fun x hx => h x (List.mem_cons_of_mem _ hx))]
      simp
theorem split_join (c : UInt8) {ws : List ByteArray} (hne : ws ≠ []) (h : ∀ x ∈ ws, ∀ b ∈ x.data.toList, b ≠ c) : splitT c (joinW ws ⟨#[c]⟩) = ws := by
  cases ws with
  | nil => exact absurd rfl hne
  | cons x r =>
    have e : (joinW (x :: r) ⟨#[c]⟩).data.toList = x.data.toList ++ Lib.joinTail [c] (r.map (·.data.toList)) := by
      unfold joinW
      rw [List.map_cons, Lib.join_cons]
    have h2 : ∀ y ∈ r.map (·.data.toList), ∀ b ∈ y, b ≠ c := fun y hy => by
      obtain ⟨z, hz, rfl⟩ := List.mem_map.1 hy
      exact h z (List.mem_cons_of_mem _ hz)
    unfold splitT
    rw [e, joinTail_pcs.pcs_app c _ [] _ (h x (List.mem_cons_self ..)), List.nil_append, joinTail_pcs c _ _ h2, List.map_cons, List.map_map]
    congr 1
    conv => rhs; rw [← List.map_id r]
    exact List.map_congr_left fun x _ => rfl
theorem mask_part {l : List D} {a : Nat} (h : ∀ d ∈ l, fitIn a d = true) : nl (mMask l) a = 0 := by
  rw [nl_zero]
  intro i hi
  rw [mMask_tb, List.any_eq_true] at hi
  obtain ⟨d, hd, hb⟩ := hi
  have := h d hd
  unfold fitIn at this
  exact nl_zero.1 (of_decide_eq_true this) i hb
theorem or_rest {m a : Nat} (h : nl m a = 0) : m ||| nl a m = a := by
  apply Nat.eq_of_testBit_eq
  intro i
  have := nl_zero.1 h i
  rw [Nat.testBit_or, tb_nl]
  cases hm : m.testBit i <;> cases ha : a.testBit i <;> simp_all
/-- A text of names of a value, and its rest, is read back. -/
theorem read_text {ds l : List D} {b : Int} {a : Nat} (hv : mIsV ds b (a : Int) = true) (hl : ∀ d ∈ l, d ∈ ds) (hf : ∀ d ∈ l, fitIn a d = true) : rdV ds b (mText ds l a) = a := by
  have hfl := mIsV_flag hv
  have ha : a < 4096 := by obtain ⟨p, e, hp⟩ := mIsV_nat hv; omega
  have hm := mask_part hf
  have hrest : nl a (mMask l) < 4096 := nl_lt ha
  have key : rdTo ds (splitT 124 (mText ds l a)) 0 = some a := by
    unfold mText textW
    split
    · rename_i h0
      have h1 : l = [] := by
        cases l with
        | nil => rfl
        | cons d r => simp at h0
      subst h1
      have h2 : a = 0 := by
        unfold restW at h0
        split at h0
        · rename_i h3
          rw [mMask_nil] at h3
          unfold nl at h3
          simpa using h3
        · simp at h0
      subst h2
      have one : ∀ s : ByteArray, (∀ c ∈ s.data.toList, c ≠ 124) → splitT 124 s = [s] := fun s hs => by
        unfold splitT
        rw [pcs_miss 124 _ _ hs]
        rfl
      rcases fidx_cases (isVal 0) ds with ⟨hx, _⟩ | ⟨k, hk, hx, hp, _⟩
      · rw [zeroT_no (by omega), show (⟨#[48]⟩ : ByteArray) = decB 0 by rw [decB_small (by decide)]; rfl, one _ (dec_bar 0), rdTo, partV_dec hfl (by decide)]
        rfl
      · have hd : ds[k] ∈ ds := List.getElem_mem hk
        have hz : ds[k].val = 0 := by unfold isVal at hp; simpa using hp
        rw [zeroT_yes hk hx, one _ (fname_bar hfl hd), rdTo, partV_mem hfl hd, hz]
        rfl
    · rename_i hne
      rw [show bar = ⟨#[124]⟩ from rfl, split_join 124 hne ?_, rdTo_names hfl _ l 0 hl, Nat.zero_or]
      · unfold restW
        split
        · rename_i h3
          have := or_rest hm
          rw [h3, Nat.or_zero] at this
          rw [rdTo, this]
        · rw [rdTo, partV_dec hfl (by omega), if_pos (by omega), rdTo, Int.toNat_natCast, or_rest hm]
      · intro x hx
        rcases List.mem_append.1 hx with hx | hx
        · obtain ⟨d, hd, rfl⟩ := List.mem_map.1 hx
          exact fname_bar hfl (hl d hd)
        · unfold restW at hx
          split at hx
          · cases hx
          · rw [List.mem_singleton.1 hx]; exact dec_bar _
  rw [rdV_some key, if_pos hv]
theorem mIn_sub {ds : List D} {a : Nat} {d : D} (h : d ∈ mIn ds a) : d ∈ ds ∧ fitIn a d = true := by
  have h2 := List.mem_filter.1 h
  exact ⟨(sgTo_in h2.1).1, h2.2⟩
theorem read_show {ds : List D} {b : Int} {a : Nat} (hv : mIsV ds b (a : Int) = true) : rdV ds b (mShowV ds b (a : Int)) = a := by
  unfold mShowV
  rw [if_pos hv, Int.toNat_natCast]
  exact read_text hv (fun d hd => (mIn_sub hd).1) (fun d hd => (mIn_sub hd).2)
theorem read_short {ds : List D} {b : Int} {a : Nat} (hv : mIsV ds b (a : Int) = true) : rdV ds b (mShowSh ds b (a : Int)) = a := by
  unfold mShowSh
  rw [if_pos hv, Int.toNat_natCast]
  refine read_text hv (fun d hd => mFit_mem ((mShortL_mem _).2 d hd)) (fun d hd => ?_)
  have h := (mShortL_mem _).2 d hd
  exact (List.mem_filter.1 (List.mem_filter.1 h).1).2
theorem read_ok {ds : List D} {b : Int} {s : ByteArray} {a : Nat} (hv : vFlag ds b = true) (h : rdV ds b s = a) : mRead ds b s = a ∧ mReadOk ds b s = true := by
  unfold mRead mReadOk
  rw [hv, h, decide_eq_true (by omega)]
  exact ⟨rfl, rfl⟩
/-- A text twice, with a bar between, has the same value. -/
theorem pcs_two (c : UInt8) : ∀ (s cur r : List UInt8), pcs c cur (s ++ c :: r) = pcs c cur s ++ pcs c [] r
  | [], cur, r => by simp only [List.nil_append, pcs, if_true]; rfl
  | b :: s, cur, r => by
    simp only [List.cons_append, pcs]
    split
    · rw [pcs_two c s [] r]; rfl
    · exact pcs_two c s _ r
theorem split_two (s : ByteArray) : splitT 124 ((s ++ bar) ++ s) = splitT 124 s ++ splitT 124 s := by
  have e : ((s ++ bar) ++ s).data.toList = s.data.toList ++ 124 :: s.data.toList := by
    rw [ByteArray.data_append, ByteArray.data_append]
    simp [bar]
  unfold splitT
  rw [e, pcs_two, List.map_append]
theorem rdTo_app {ds : List D} : ∀ (l r : List ByteArray) (a : Nat), rdTo ds (l ++ r) a = (rdTo ds l a).bind (rdTo ds r)
  | [], r, a => rfl
  | s :: l, r, a => by
    rw [List.cons_append, rdTo, rdTo]
    split
    · exact rdTo_app l r _
    · rfl
theorem rdTo_or {ds : List D} : ∀ (l : List ByteArray) (a m : Nat), rdTo ds l a = some m → ∃ q, m = a ||| q ∧ ∀ x, rdTo ds l x = some (x ||| q)
  | [], a, m, h => by rw [rdTo] at h; cases h; exact ⟨0, (Nat.or_zero _).symm, fun x => by rw [rdTo, Nat.or_zero]⟩
  | s :: l, a, m, h => by
    rw [rdTo] at h
    split at h
    · rename_i hs
      obtain ⟨q, h1, h2⟩ := rdTo_or l _ m h
      refine ⟨(partV ds s).toNat ||| q, by rw [h1, Nat.or_assoc], fun x => ?_⟩
      rw [rdTo, if_pos hs, h2, Nat.or_assoc]
    · cases h
theorem read_two {ds : List D} {b : Int} {s : ByteArray} {a : Nat} (h : rdV ds b s = a) : rdV ds b ((s ++ bar) ++ s) = a := by
  rcases rdV_cases ds b s with h2 | ⟨m, hm, hv, h2, h3⟩
  · omega
  · have e : m = a := by omega
    subst e
    obtain ⟨q, h4, h5⟩ := rdTo_or _ 0 m h3
    rw [Nat.zero_or] at h4
    have key : rdTo ds (splitT 124 ((s ++ bar) ++ s)) 0 = some m := by
      rw [split_two, rdTo_app, h3]
      show rdTo ds (splitT 124 s) m = _
      rw [h5 m, ← h4, Nat.or_self]
    rw [rdV_some key, if_pos hv]
end Go.Proofs.YtiebdhbioccogaaGreatDoor

namespace Go.Proofs.YtiebdhbioccogaaGreatDoor
set_option linter.unusedVariables false

/-! ### cutting a text, step by step: no program in sight -/
theorem extract_mk (s : ByteArray) (j k : Nat) : s.extract j k = ⟨((s.data.toList.drop j).take (k - j)).toArray⟩ := by
  apply ByteArray.ext
  rw [ByteArray.data_extract]
  apply Array.ext'
  simp [List.extract_eq_take_drop]
def splSt (c : UInt8) (s : ByteArray) (done : List ByteArray) (j k : Nat) : Prop := splitT c s = done ++ (pcs c ((s.data.toList.drop j).take (k - j)) (s.data.toList.drop k)).map fun l => (⟨l.toArray⟩ : ByteArray)
theorem spl_zero (c : UInt8) (s : ByteArray) : splSt c s [] 0 0 := by
  unfold splSt splitT
  simp
theorem spl_drop {s : ByteArray} {k : Nat} (hk : k < s.size) : s.data.toList.drop k = s[k] :: s.data.toList.drop (k + 1) := by
  have h : k < s.data.toList.length := by rw [Array.length_toList]; exact hk
  rw [List.drop_eq_getElem_cons h]
  rfl
theorem spl_hit {c : UInt8} {s : ByteArray} {done : List ByteArray} {j k : Nat} (hk : k < s.size) (h : s[k] = c) (hst : splSt c s done j k) : splSt c s (done ++ [s.extract j k]) (k + 1) (k + 1) := by
  unfold splSt at hst ⊢
  rw [hst, spl_drop hk, pcs, if_pos h, List.map_cons, extract_mk, Nat.sub_self, List.take_zero]
  simp
theorem spl_miss {c : UInt8} {s : ByteArray} {done : List ByteArray} {j k : Nat} (hj : j ≤ k) (hk : k < s.size) (h : ¬ s[k] = c) (hst : splSt c s done j k) : splSt c s done j (k + 1) := by
  unfold splSt at hst ⊢
  have e : (s.data.toList.drop j).take (k - j) ++ [s[k]] = (s.data.toList.drop j).take (k + 1 - j) := by
    have hl : k - j < (s.data.toList.drop j).length := by rw [List.length_drop, Array.length_toList]; have : s.data.size = s.size := rfl; omega
    rw [show k + 1 - j = (k - j) + 1 by omega, List.take_succ_eq_append_getElem hl]
    congr 2
    rw [List.getElem_drop]
    have : j + (k - j) = k := by omega
    simp only [this]
    rfl
  rw [hst, spl_drop hk, pcs, if_neg h, e]
theorem spl_end {c : UInt8} {s : ByteArray} {done : List ByteArray} {j : Nat} (hst : splSt c s done j s.size) : splitT c s = done ++ [s.extract j s.size] := by
  unfold splSt at hst
  have h : s.data.toList.drop s.size = [] := List.drop_eq_nil_of_le (by rw [Array.length_toList]; exact Nat.le_refl _)
  rw [hst, h, pcs, extract_mk]
  rfl
/-! ### a number that is read, digit by digit -/
def rdSt (s : ByteArray) (k n : Nat) : Prop := rdLoop s.data.toList 0 = rdLoop (s.data.toList.drop k) n
theorem rd_step {s : ByteArray} {k n : Nat} (hk : k < s.size) (h1 : 48 ≤ s[k].toNat) (h2 : s[k].toNat ≤ 57) (h3 : n ≤ 4095) (h : rdSt s k n) : rdSt s (k + 1) (10 * n + (s[k].toNat - 48)) := by
  unfold rdSt at h ⊢
  rw [h, spl_drop hk, rdLoop, if_pos ⟨h1, h2, h3⟩]
theorem rd_no {s : ByteArray} {k n : Nat} (hk : k < s.size) (h1 : s[k].toNat < 48 ∨ 57 < s[k].toNat ∨ 4095 < n) (h : rdSt s k n) : mRdN s = -1 := by
  unfold rdSt at h
  rw [spl_drop hk, rdLoop, if_neg (by omega)] at h
  unfold mRdN
  rw [h]
theorem rd_end {s : ByteArray} {n : Nat} (h : rdSt s s.size n) : mRdN s = if s.size ≠ 0 ∧ n ≤ 4096 ∧ decB n = s then (n : Int) else -1 := by
  unfold rdSt at h
  have h2 : s.data.toList.drop s.size = [] := List.drop_eq_nil_of_le (by rw [Array.length_toList]; exact Nat.le_refl _)
  rw [h2, rdLoop] at h
  unfold mRdN
  rw [h]
end Go.Proofs.YtiebdhbioccogaaGreatDoor

