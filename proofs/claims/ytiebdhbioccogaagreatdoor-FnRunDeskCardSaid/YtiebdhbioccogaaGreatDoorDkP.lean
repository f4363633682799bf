import Derived.Test.YtiebdhbioccogaaGreatDoorBaseJ
import Derived.Test.YtiebdhbioccogaaGreatDoorLAlg
import Derived.Test.YtiebdhbioccogaaGreatDoorBaseM
namespace Go.Proofs.YtiebdhbioccogaaGreatDoor
open Go.RowKit Go.Maps
set_option linter.unusedVariables false
set_option maxRecDepth 100000

/-! ### the desk: plain -/
def makeB : ByteArray := ⟨#[109, 97, 107, 101]⟩
def whatB : ByteArray := ⟨#[119, 104, 97, 116]⟩
def badB : ByteArray := ⟨#[119, 114, 111, 110, 103]⟩
def valueB : ByteArray := ⟨#[118, 97, 108, 117, 101]⟩
def showB : ByteArray := ⟨#[115, 104, 111, 119]⟩
def shortB : ByteArray := ⟨#[115, 104, 111, 114, 116]⟩
def notB : ByteArray := ⟨#[110, 111, 116]⟩
def orB : ByteArray := ⟨#[111, 114]⟩
def andB : ByteArray := ⟨#[97, 110, 100]⟩
def lessB : ByteArray := ⟨#[108, 101, 115, 115]⟩
def numberB : ByteArray := ⟨#[110, 117, 109, 98, 101, 114, 32]⟩
def dkNum (x : ByteArray) : Option Int := match numOf x with
  | some v => if inV v then some v else none
  | none => none
def mkT (ds : List D) (b n : Int) : ByteArray := if (mMade ds b n).2 = 0 then mShowV ds b (mMade ds b n).1 else if (mMade ds b n).2 = 1 then numberB ++ itoaB (mMade ds b n).1 else badB
def mkS (ds : List D) (b : Int) (x : ByteArray) : ByteArray := match dkNum x with
  | some n => mkT ds b n
  | none => whatB
def oneT (ds : List D) (b : Int) (v : ByteArray) (a : Int) : ByteArray := if v = valueB then itoaB a else if v = showB then mShowV ds b a else if v = shortB then mShowSh ds b a else if v = notB then mShowV ds b (mInv ds b a) else whatB
def twoT (ds : List D) (b : Int) (v : ByteArray) (x y : Int) : ByteArray := if v = orB then mShowV ds b (mOp orN ds b x y) else if v = andB then mShowV ds b (mOp andN ds b x y) else if v = lessB then mShowV ds b (mOp nl ds b x y) else whatB
def ansL (ds : List D) (b : Int) : List ByteArray → ByteArray
  | [v, x] => if v = makeB then mkS ds b x else if 0 ≤ rdV ds b x then oneT ds b v (rdV ds b x) else whatB
  | [v, x, y] => if 0 ≤ rdV ds b x ∧ 0 ≤ rdV ds b y then twoT ds b v (rdV ds b x) (rdV ds b y) else whatB
  | _ => whatB
def ansT (ds : List D) (b : Int) (line : ByteArray) : ByteArray := ansL ds b (splitT 32 line)
def deskT (ds : List D) (b : Int) (ok : Bool) : List ByteArray → ByteArray
  | [] => ⟨#[]⟩
  | l :: r => ((if ok then ansT ds b l else badB) ++ nlB) ++ deskT ds b ok r
def mDesk (s : ByteArray) (ls : List ByteArray) : ByteArray := if 20 < ls.length then ⟨#[]⟩ else deskT (mPF s) (bPF s) (okPF s) ls

/-! ### the line, cut -/
theorem dk_index {u v : List UInt8} (hu : ∀ b ∈ u, b ≠ 32) : Lib.index (u ++ 32 :: v) [32] = (u.length : Int) := by
  refine Lib.index_first (by simp) ?_ ?_
  · unfold Lib.occAt
    rw [List.drop_left]
    simp [List.isPrefixOf]
  · intro j hj
    unfold Lib.occAt
    rw [List.drop_append_of_le_length (by omega)]
    obtain ⟨x, r, e⟩ : ∃ x r, u.drop j = x :: r := by
      cases e : u.drop j with
      | nil => have := congrArg List.length e; rw [List.length_drop, List.length_nil] at this; omega
      | cons x r => exact ⟨x, r, rfl⟩
    have hx : x ≠ 32 := hu x (List.mem_of_mem_drop (by rw [e]; exact List.mem_cons_self ..))
    rw [e]
    simp [List.isPrefixOf, Ne.symm hx]
theorem dk_none {s : List UInt8} (hs : ∀ b ∈ s, b ≠ 32) : Lib.index s [32] = -1 := by
  refine Lib.index_none ?_
  intro j hj
  unfold Lib.occAt
  cases e : s.drop j with
  | nil => rfl
  | cons x r =>
    have hx : x ≠ 32 := hs x (List.mem_of_mem_drop (by rw [e]; exact List.mem_cons_self ..))
    simp [List.isPrefixOf, Ne.symm hx]
theorem dk_parts (s : List UInt8) : (∀ b ∈ s, b ≠ 32) ∨ ∃ u v, s = u ++ 32 :: v ∧ ∀ b ∈ u, b ≠ 32 := by
  induction s with
  | nil => exact .inl (by simp)
  | cons x r ih =>
    by_cases hx : x = 32
    · exact .inr ⟨[], r, by rw [hx]; rfl, by simp⟩
    · rcases ih with h | ⟨u, v, e, h⟩
      · refine .inl fun b hb => ?_
        rcases List.mem_cons.1 hb with rfl | hb
        · exact hx
        · exact h b hb
      · refine .inr ⟨x :: u, v, by rw [e]; rfl, fun b hb => ?_⟩
        rcases List.mem_cons.1 hb with rfl | hb
        · exact hx
        · exact h b hb
/-- A line is its verb, and the words behind it. -/
theorem dk_cut (line : ByteArray) : ∃ (v r : ByteArray) (f : Bool), Lib.cut line.data.toList [32] = (v.data.toList, r.data.toList, f) ∧ r.size ≤ line.size ∧ ((f = false ∧ v = line ∧ r = ⟨#[]⟩ ∧ splitT 32 line = [v]) ∨ (f = true ∧ splitT 32 line = v :: splitT 32 r)) := by
  rcases dk_parts line.data.toList with h | ⟨u, v, e, h⟩
  · refine ⟨line, ⟨#[]⟩, false, ?_, Nat.zero_le _, .inl ⟨rfl, rfl, rfl, ?_⟩⟩
    · unfold Lib.cut
      rw [dk_none h, if_neg (by decide)]
    · unfold splitT
      rw [pcs_miss _ _ _ h]
      show [(⟨([] ++ line.data.toList).toArray⟩ : ByteArray)] = [line]
      rw [List.nil_append, mk_list]
  · refine ⟨⟨u.toArray⟩, ⟨v.toArray⟩, true, ?_, ?_, .inr ⟨rfl, ?_⟩⟩
    · unfold Lib.cut
      rw [e, dk_index h, if_pos (by omega), Int.toNat_natCast, List.take_left, show u.length + ([32] : List UInt8).length = (u ++ [32]).length by simp, show u ++ 32 :: v = (u ++ [32]) ++ v by simp, List.drop_left]
    · have h1 : line.size = line.data.toList.length := by rw [Array.length_toList]; rfl
      rw [h1, e]
      show v.toArray.size ≤ _
      rw [List.size_toArray, List.length_append, List.length_cons]
      omega
    · unfold splitT
      rw [e, pcs_hit _ _ _ _ h]
      rfl
theorem dk_dec : ∀ n : Nat, ∀ b ∈ Lib.decDigits n, 48 ≤ b.toNat := by
  intro n
  induction n using Nat.strongRecOn with
  | _ n ih =>
    intro b hb
    by_cases h : n < 10
    · rw [dec_small h] at hb
      rw [List.mem_singleton.1 hb, UInt8.toNat_ofNat']
      omega
    · rw [dec_big h] at hb
      rcases List.mem_append.1 hb with hb | hb
      · exact ih (n / 10) (by omega) b hb
      · rw [List.mem_singleton.1 hb, UInt8.toNat_ofNat']
        omega
theorem dk_itoa (x : Int) : ∀ b ∈ Lib.itoa x, b ≠ 32 := by
  intro b hb e
  subst e
  unfold Lib.itoa at hb
  split at hb
  · rcases List.mem_cons.1 hb with h | h
    · exact absurd h (by decide)
    · exact absurd (dk_dec _ _ h) (by decide)
  · exact absurd (dk_dec _ _ hb) (by decide)
theorem num_sp {x : ByteArray} (h : ∃ b ∈ x.data.toList, b = 32) : numOf x = none := by
  unfold numOf
  split
  · rename_i v hv
    by_cases e : itoaB v = x
    · exfalso
      obtain ⟨b, hb, rfl⟩ := h
      rw [← e] at hb
      have hb2 : (32 : UInt8) ∈ Lib.itoa v := by simpa [itoaB] using hb
      exact dk_itoa v _ hb2 rfl
    · rw [if_neg e]
  · rfl
def CutL (line v r : ByteArray) (f : Bool) : Prop := Lib.cut line.data.toList [32] = (v.data.toList, r.data.toList, f) ∧ r.size ≤ line.size ∧ ((f = false ∧ v = line ∧ r = ⟨#[]⟩ ∧ splitT 32 line = [v]) ∨ (f = true ∧ splitT 32 line = v :: splitT 32 r))
theorem dk_only {x : ByteArray} (h : ∀ y z r, splitT 32 x ≠ y :: z :: r) : splitT 32 x = [x] := by
  rcases dk_parts x.data.toList with h1 | ⟨u, v, e, h1⟩
  · unfold splitT
    rw [pcs_miss _ _ _ h1]
    show [(⟨([] ++ x.data.toList).toArray⟩ : ByteArray)] = [x]
    rw [List.nil_append, mk_list]
  · exfalso
    have h2 : splitT 32 x = (⟨u.toArray⟩ : ByteArray) :: splitT 32 ⟨v.toArray⟩ := by
      unfold splitT
      rw [e, pcs_hit _ _ _ _ h1]
      rfl
    have h3 := (splitT_len 32 (⟨v.toArray⟩ : ByteArray)).2
    cases h4 : splitT 32 (⟨v.toArray⟩ : ByteArray) with
    | nil => rw [h4] at h3; exact absurd h3 (by simp)
    | cons y r => rw [h4] at h2; exact h _ _ _ h2
theorem split_more {x y z : ByteArray} {r : List ByteArray} (h : splitT 32 x = y :: z :: r) : numOf x = none := by
  rcases dk_parts x.data.toList with h1 | ⟨u, v, e, h1⟩
  · exfalso
    have h2 : splitT 32 x = [x] := by
      unfold splitT
      rw [pcs_miss _ _ _ h1]
      show [(⟨([] ++ x.data.toList).toArray⟩ : ByteArray)] = [x]
      rw [List.nil_append, mk_list]
    rw [h2] at h
    cases h
  · exact num_sp ⟨32, by rw [e]; simp, rfl⟩
theorem split_nil : splitT 32 (⟨#[]⟩ : ByteArray) = [⟨#[]⟩] := rfl
theorem dkNum_none {x : ByteArray} (h : numOf x = none) : dkNum x = none := by unfold dkNum; rw [h]
theorem dk_one (x : Int) : Lib.itoa x ≠ [] := by
  unfold Lib.itoa
  split
  · simp
  · by_cases h : x.toNat < 10
    · rw [dec_small h]; simp
    · rw [dec_big h]; simp
theorem num_nil : numOf (⟨#[]⟩ : ByteArray) = none := by
  unfold numOf
  split
  · rename_i v hv
    by_cases e : itoaB v = (⟨#[]⟩ : ByteArray)
    · exfalso
      have h2 := congrArg (fun s : ByteArray => s.data.toList) e
      exact dk_one v (by simpa [itoaB] using h2)
    · rw [if_neg e]
  · rfl
theorem ansL2 (ds : List D) (b : Int) (v x : ByteArray) : ansL ds b [v, x] = if v = makeB then mkS ds b x else if 0 ≤ rdV ds b x then oneT ds b v (rdV ds b x) else whatB := rfl
theorem ansL3 (ds : List D) (b : Int) (v x y : ByteArray) : ansL ds b [v, x, y] = if 0 ≤ rdV ds b x ∧ 0 ≤ rdV ds b y then twoT ds b v (rdV ds b x) (rdV ds b y) else whatB := rfl
section
variable {ds : List D} {b : Int} {line v r : ByteArray} {f : Bool}
theorem ans_make (h : CutL line v r f) (hm : v = makeB) : ansT ds b line = mkS ds b r := by
  obtain ⟨_, _, h3⟩ := h
  unfold ansT
  rcases h3 with ⟨_, _, rfl, h4⟩ | ⟨_, h4⟩
  · rw [h4]
    unfold ansL mkS
    rw [dkNum_none num_nil]
  · rw [h4]
    cases h5 : splitT 32 r with
    | nil => have := (splitT_len 32 r).2; rw [h5] at this; exact absurd this (by simp)
    | cons x t =>
      cases t with
      | nil =>
        have h6 : splitT 32 r = [r] := dk_only (by intro y z q e; rw [h5] at e; cases e)
        rw [h5] at h6
        cases h6
        rw [ansL2, if_pos hm]
      | cons y q =>
        have h6 := split_more h5
        have h7 : mkS ds b r = whatB := by unfold mkS; rw [dkNum_none h6]
        rw [h7]
        cases q with
        | nil =>
          rw [ansL3]
          split
          · rw [hm]
            unfold twoT
            rw [if_neg (by decide), if_neg (by decide), if_neg (by decide)]
          · rfl
        | cons z q => rfl
theorem ans_bad (hv : vFlag ds b = true) (h : CutL line v r f) (hm : v ≠ makeB) {x : ByteArray} (hx : x ∈ splitT 32 r) (hn : rdV ds b x < 0) : ansT ds b line = whatB := by
  obtain ⟨_, _, h3⟩ := h
  unfold ansT
  rcases h3 with ⟨_, _, rfl, h4⟩ | ⟨_, h4⟩
  · rw [h4]; rfl
  · rw [h4]
    match h5 : splitT 32 r with
    | [] => rfl
    | [y] =>
      rw [h5] at hx
      have e := List.mem_singleton.1 hx
      subst e
      rw [ansL2, if_neg hm, if_neg (by omega)]
    | [y, z] =>
      rw [h5] at hx
      rw [ansL3, if_neg]
      rintro ⟨h6, h7⟩
      rcases List.mem_cons.1 hx with rfl | hx
      · omega
      · have e := List.mem_singleton.1 hx
        subst e
        omega
    | y :: z :: q :: t => rfl
theorem ans_one (hv : vFlag ds b = true) (h : CutL line v r f) (hm : v ≠ makeB) {x : ByteArray} (hx : splitT 32 r = [x]) (hn : 0 ≤ rdV ds b x) : ansT ds b line = oneT ds b v (rdV ds b x) := by
  obtain ⟨_, _, h3⟩ := h
  unfold ansT
  rcases h3 with ⟨_, _, rfl, h4⟩ | ⟨_, h4⟩
  · rw [split_nil] at hx
    cases hx
    rw [rd_empty hv] at hn
    exact absurd hn (by decide)
  · rw [h4, hx]
    rw [ansL2, if_neg hm, if_pos hn]
theorem ans_two (hv : vFlag ds b = true) (h : CutL line v r f) (hm : v ≠ makeB) {x y : ByteArray} (hx : splitT 32 r = [x, y]) (hn : 0 ≤ rdV ds b x) (hn2 : 0 ≤ rdV ds b y) : ansT ds b line = twoT ds b v (rdV ds b x) (rdV ds b y) := by
  obtain ⟨_, _, h3⟩ := h
  unfold ansT
  rcases h3 with ⟨_, _, rfl, h4⟩ | ⟨_, h4⟩
  · rw [split_nil] at hx; cases hx
  · rw [h4, hx]
    rw [ansL3, if_pos ⟨hn, hn2⟩]
theorem ans_more (hv : vFlag ds b = true) (h : CutL line v r f) (hm : v ≠ makeB) {x y z : ByteArray} {t : List ByteArray} (hx : splitT 32 r = x :: y :: z :: t) : ansT ds b line = whatB := by
  obtain ⟨_, _, h3⟩ := h
  unfold ansT
  rcases h3 with ⟨_, _, rfl, h4⟩ | ⟨_, h4⟩
  · rw [split_nil] at hx; cases hx
  · rw [h4, hx]; rfl
end
/-! ### sizes -/
theorem shV_size (ds : List D) (b x : Int) : (mShowV ds b x).size ≤ 1000 := by
  cases h : mIsV ds b x
  · rw [mShow_no h]; exact Nat.zero_le _
  · exact showV_size h
theorem shS_size (ds : List D) (b x : Int) : (mShowSh ds b x).size ≤ 1000 := by
  cases h : mIsV ds b x
  · rw [mShowSh_no h]; exact Nat.zero_le _
  · exact showSh_size h
theorem mMade_rng {ds : List D} {b n : Int} (h : (mMade ds b n).2 = 1) : ∃ k : Nat, (mMade ds b n).1 = (k : Int) ∧ n = (k : Int) := by
  unfold mMade at *
  split at h
  · exact absurd h (show ¬ ((0 : Int) = 1) by decide)
  · rename_i h1
    split at h
    · exact absurd h (show ¬ ((0 : Int) = 1) by decide)
    · split at h
      · exact absurd h (show ¬ ((2 : Int) = 1) by decide)
      · split at h
        · exact absurd h (show ¬ ((0 : Int) = 1) by decide)
        · split at h
          · rename_i h2 h3 h4 h5
            rw [if_neg h1, if_neg h2, if_neg h3, if_neg h4, if_pos h5]
            exact ⟨n.toNat, by omega, by omega⟩
          · exact absurd h (show ¬ ((0 : Int) = 1) by decide)
theorem mkT_size (ds : List D) (b n : Int) (hn : inV n = true) : (mkT ds b n).size ≤ 1000 := by
  unfold mkT
  split
  · exact shV_size _ _ _
  · split
    · rename_i h
      obtain ⟨k, h1, h2⟩ := mMade_rng h
      unfold inV at hn
      simp only [Bool.and_eq_true, decide_eq_true_eq] at hn
      have := itoaB_size (v := (k : Int)) (by omega) (by omega)
      rw [h1, ByteArray.size_append]
      have h3 : numberB.size = 7 := rfl
      omega
    · have h3 : badB.size = 5 := rfl
      omega
theorem what_size : whatB.size ≤ 1000 := by decide
theorem ansT_size (ds : List D) (b : Int) (line : ByteArray) : (ansT ds b line).size ≤ 1000 := by
  unfold ansT
  match splitT 32 line with
  | [] => exact what_size
  | [v] => exact what_size
  | [v, x] =>
    rw [ansL2]
    split
    · unfold mkS
      split
      · rename_i n hn
        refine mkT_size _ _ _ ?_
        unfold dkNum at hn
        split at hn
        · split at hn
          · rename_i h; cases hn; exact h
          · cases hn
        · cases hn
      · exact what_size
    · split
      · rename_i h0
        rcases rdV_cases ds b x with h | ⟨m, hm, _, h, _⟩
        · rw [h] at h0; exact absurd h0 (by decide)
        · rw [h]
          unfold oneT
          split
          · have := itoaB_size (v := (m : Int)) (by omega) (by omega); omega
          · split
            · exact shV_size _ _ _
            · split
              · exact shS_size _ _ _
              · split
                · exact shV_size _ _ _
                · exact what_size
      · exact what_size
  | [v, x, y] =>
    rw [ansL3]
    split
    · unfold twoT
      split
      · exact shV_size _ _ _
      · split
        · exact shV_size _ _ _
        · split
          · exact shV_size _ _ _
          · exact what_size
    · exact what_size
  | v :: x :: y :: z :: t => exact what_size
theorem deskT_app (ds : List D) (b : Int) (ok : Bool) : ∀ xs ys : List ByteArray, deskT ds b ok (xs ++ ys) = deskT ds b ok xs ++ deskT ds b ok ys
  | [], ys => by show deskT ds b ok ys = (⟨#[]⟩ : ByteArray) ++ _; rw [show (⟨#[]⟩ : ByteArray) = ByteArray.empty from rfl, ByteArray.empty_append]
  | x :: xs, ys => by
    show _ ++ deskT ds b ok (xs ++ ys) = (_ ++ deskT ds b ok xs) ++ _
    rw [deskT_app ds b ok xs ys]
    simp only [ByteArray.append_assoc]
theorem deskT_snoc {ds : List D} {b : Int} {ok : Bool} {ls : List ByteArray} {k : Nat} (hk : k < ls.length) : deskT ds b ok (ls.take (k + 1)) = deskT ds b ok (ls.take k) ++ ((if ok then ansT ds b ls[k] else badB) ++ nlB) := by
  rw [List.take_succ_eq_append_getElem hk, deskT_app]
  congr 1
  show (_ ++ nlB) ++ (⟨#[]⟩ : ByteArray) = _
  rw [show (⟨#[]⟩ : ByteArray) = ByteArray.empty from rfl, ByteArray.append_empty]
theorem deskT_size (ds : List D) (b : Int) (ok : Bool) : ∀ ls : List ByteArray, (deskT ds b ok ls).size ≤ 1001 * ls.length
  | [] => Nat.zero_le _
  | l :: r => by
    show ((_ ++ nlB) ++ deskT ds b ok r).size ≤ _
    have h1 := deskT_size ds b ok r
    have h2 := ansT_size ds b l
    have h3 : nlB.size = 1 := rfl
    have h4 : badB.size = 5 := rfl
    rw [ByteArray.size_append, ByteArray.size_append, List.length_cons]
    cases ok
    · rw [if_neg (by decide)]; omega
    · rw [if_pos rfl]; omega
end Go.Proofs.YtiebdhbioccogaaGreatDoor
