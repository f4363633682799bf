import Derived.Test.YtboehlffbibgmaaDoorShwP
import Derived.Test.YtboehlffbibgmaaDoorFewP
import Derived.Test.YtboehlffbibgmaaDoorShowA
import Derived.Lib.Join
namespace Go.Proofs.YtboehlffbibgmaaDoor
set_option linter.unusedVariables false

/-! ### texts of values: no program in sight -/
def joinW (ss : List ByteArray) (sep : ByteArray) : ByteArray := ⟨(Lib.join (ss.map (·.data.toList)) sep.data.toList).toArray⟩
def bar : ByteArray := ⟨#[124]⟩
theorem joinW_nil (sep : ByteArray) : joinW [] sep = ⟨#[]⟩ := rfl
theorem nil_app (s : ByteArray) : (⟨#[]⟩ : ByteArray) ++ s = s := by
  apply ByteArray.ext
  rw [ByteArray.data_append]
  simp
theorem joinW_one (s sep : ByteArray) : joinW [s] sep = s := by
  apply ByteArray.ext
  unfold joinW
  rw [List.map_cons, List.map_nil, Lib.join_one]
theorem joinW_snoc {ss : List ByteArray} (h : ss ≠ []) (s sep : ByteArray) : joinW (ss ++ [s]) sep = (joinW ss sep ++ sep) ++ s := by
  cases ss with
  | nil => exact absurd rfl h
  | cons x r =>
    apply ByteArray.ext
    rw [ByteArray.data_append, ByteArray.data_append]
    unfold joinW
    rw [List.cons_append, List.map_cons, List.map_cons, List.map_append, Lib.join_cons, Lib.join_cons]
    simp [Lib.joinTail]
theorem joinW_step (ss : List ByteArray) (sep : ByteArray) (k : Nat) (hk : k < ss.length) : joinW (ss.take (k + 1)) sep = (if k = 0 then joinW (ss.take k) sep else joinW (ss.take k) sep ++ sep) ++ ss[k] := by
  rw [List.take_succ_eq_append_getElem hk]
  by_cases h : k = 0
  · subst h
    rw [if_pos rfl, List.take_zero, List.nil_append, joinW_one, joinW_nil, nil_app]
  · rw [if_neg h]
    refine joinW_snoc ?_ _ _
    intro e
    have h2 : (ss.take k).length = 0 := by rw [e]; rfl
    rw [List.length_take] at h2
    omega
theorem joinW_size {ss : List ByteArray} {sep : ByteArray} {M : Nat} (hM : ∀ s ∈ ss, s.size ≤ M) : ∀ k, k ≤ ss.length → (joinW (ss.take k) sep).size ≤ (M + sep.size) * k := by
  intro k
  induction k with
  | zero => intro _; exact Nat.zero_le _
  | succ k ih =>
    intro hk
    have h1 := ih (by omega)
    have h2 := hM _ (List.getElem_mem (show k < ss.length by omega))
    rw [joinW_step ss sep k (by omega), Nat.mul_succ, ByteArray.size_append]
    split
    · omega
    · rw [ByteArray.size_append]; omega
/-- The rest of a value as a text, where there is one. -/
def restW (r : Nat) : List ByteArray := if r = 0 then [] else [decB r]
def zeroT (ds : List D) : ByteArray := if 0 ≤ fidx (isVal 0) ds then (ds[(fidx (isVal 0) ds).toNat]?).elim ⟨#[]⟩ D.name else ⟨#[48]⟩
theorem zeroT_yes {ds : List D} {k : Nat} (hk : k < ds.length) (h : fidx (isVal 0) ds = k) : zeroT ds = ds[k].name := by
  unfold zeroT
  rw [h, if_pos (by omega), Int.toNat_natCast, List.getElem?_eq_getElem hk]
  rfl
theorem zeroT_no {ds : List D} (h : fidx (isVal 0) ds < 0) : zeroT ds = ⟨#[48]⟩ := by unfold zeroT; rw [if_neg (by omega)]
def textW (ds : List D) (ws : List ByteArray) : ByteArray := if ws = [] then zeroT ds else joinW ws bar
/-- The text of a value, of the names of some definitions. -/
def mText (ds l : List D) (a : Nat) : ByteArray := textW ds (l.map D.name ++ restW (nl a (mMask l)))
def mShowV (ds : List D) (b x : Int) : ByteArray := if mIsV ds b x then mText ds (mIn ds x.toNat) x.toNat else ⟨#[]⟩
def mShowSh (ds : List D) (b x : Int) : ByteArray := if mIsV ds b x then mText ds (mShortL (mFit ds x.toNat)) x.toNat else ⟨#[]⟩
theorem flag_name6 {ds : List D} {b : Int} (hv : vFlag ds b = true) {d : D} (hd : d ∈ ds) : d.name.size ≤ 6 := by
  obtain ⟨i, hi, rfl⟩ := List.mem_iff_getElem.1 hd
  have := vDefs_good (vFlag_defs hv) i hi hi
  unfold goodAt at this
  simp only [Bool.and_eq_true] at this
  have := this.1.1
  unfold vName at this
  simp only [Bool.and_eq_true, decide_eq_true_eq] at this
  exact this.1.2
end Go.Proofs.YtboehlffbibgmaaDoor
