import Derived.Test.YtlomhkhpnafooaaDoorBaseQ
namespace Go.Proofs.YtlomhkhpnafooaaDoor
set_option linter.unusedVariables false

/-! ### texts of classes: no program in sight -/
theorem ba_assoc (a b c : ByteArray) : (a ++ b) ++ c = a ++ (b ++ c) := by
  apply ByteArray.ext
  simp only [ByteArray.data_append, Array.append_assoc]
theorem ba_nil (a : ByteArray) : a ++ ⟨#[]⟩ = a := by
  apply ByteArray.ext
  rw [ByteArray.data_append]
  simp
def eqB : ByteArray := ⟨#[32, 61, 32]⟩
def nlB : ByteArray := ⟨#[10]⟩
def lineB (d : D) : ByteArray := ((d.name ++ eqB) ++ itoaB d.val) ++ nlB
def linesB : List D → ByteArray
  | [] => ⟨#[]⟩
  | d :: r => lineB d ++ linesB r
theorem linesB_snoc (d : D) : ∀ l : List D, linesB (l ++ [d]) = linesB l ++ lineB d
  | [] => by
    show lineB d ++ (⟨#[]⟩ : ByteArray) = (⟨#[]⟩ : ByteArray) ++ lineB d
    rw [ba_nil, nil_app]
  | x :: r => by rw [List.cons_append, linesB, linesB_snoc d r, linesB, ba_assoc]
theorem linesB_succ {l : List D} {k : Nat} (hk : k < l.length) : linesB (l.take (k + 1)) = linesB (l.take k) ++ lineB l[k] := by
  rw [List.take_succ_eq_append_getElem hk, linesB_snoc]
/-- What is written of a definition, piece by piece. -/
theorem line_four (t : ByteArray) (d : D) : (((t ++ d.name) ++ eqB) ++ itoaB d.val) ++ nlB = t ++ lineB d := by
  unfold lineB
  rw [ba_assoc, ba_assoc, ba_assoc, ba_assoc, ba_assoc]
theorem itoaB_size {v : Int} (h0 : -5000 ≤ v) (h1 : v ≤ 5000) : (itoaB v).size ≤ 6 := by
  by_cases h : 0 ≤ v
  · obtain ⟨n, rfl⟩ : ∃ n : Nat, v = n := ⟨v.toNat, by omega⟩
    rw [itoaB_pos]
    have := decB_size 4 n (by omega)
    omega
  · obtain ⟨n, hn⟩ : ∃ n : Nat, v = -(n : Int) := ⟨(-v).toNat, by omega⟩
    subst hn
    rw [itoaB_neg n (by omega), ByteArray.size_append]
    have := decB_size 4 n (by omega)
    show 1 + _ ≤ 6
    omega
theorem lineB_size {d : D} (h : d.name.size ≤ 6) (h0 : -5000 ≤ d.val) (h1 : d.val ≤ 5000) : (lineB d).size ≤ 16 := by
  have := itoaB_size h0 h1
  unfold lineB
  rw [ByteArray.size_append, ByteArray.size_append, ByteArray.size_append]
  show d.name.size + 3 + _ + 1 ≤ 16
  omega
theorem linesB_size : ∀ l : List D, (∀ d ∈ l, d.name.size ≤ 6 ∧ -5000 ≤ d.val ∧ d.val ≤ 5000) → (linesB l).size ≤ 16 * l.length
  | [], _ => Nat.le_refl _
  | d :: r, h => by
    have h1 := linesB_size r (fun x hx => h x (List.mem_cons_of_mem _ hx))
    obtain ⟨a, b, c⟩ := h d (List.mem_cons_self ..)
    have h2 := lineB_size a b c
    rw [linesB, ByteArray.size_append, List.length_cons]
    omega
def enumB : ByteArray := ⟨#[101, 110, 117, 109]⟩
def mEnumT (ds : List D) : ByteArray := if vEnum ds then (enumB ++ nlB) ++ linesB ds else ⟨#[]⟩
def boundB (b : Int) : ByteArray := if b = 0 then ⟨#[115, 116, 114, 105, 99, 116]⟩ else if b = 1 then ⟨#[102, 105, 116]⟩ else if b = 2 then ⟨#[101, 106, 101, 99, 116]⟩ else ⟨#[107, 101, 101, 112]⟩
def flagB : ByteArray := ⟨#[102, 108, 97, 103, 32]⟩
def mFlagT (ds : List D) (b : Int) : ByteArray := if vFlag ds b then ((flagB ++ boundB b) ++ nlB) ++ linesB ds else ⟨#[]⟩
theorem enum_small {ds : List D} (hv : vEnum ds = true) : ∀ d ∈ ds, d.name.size ≤ 6 ∧ -5000 ≤ d.val ∧ d.val ≤ 5000 := by
  intro d hd
  have h1 := vEnum_name hv d hd
  have h2 := vEnum_val hv d hd
  unfold vName at h1
  simp only [Bool.and_eq_true, decide_eq_true_eq] at h1
  exact ⟨h1.1.2, by omega, by omega⟩
theorem flag_small {ds : List D} {b : Int} (hv : vFlag ds b = true) : ∀ d ∈ ds, d.name.size ≤ 6 ∧ -5000 ≤ d.val ∧ d.val ≤ 5000 := by
  intro d hd
  have h2 := vFlag_in hv d hd
  unfold inR at h2
  exact ⟨flag_name6 hv hd, by omega, by omega⟩
end Go.Proofs.YtlomhkhpnafooaaDoor
