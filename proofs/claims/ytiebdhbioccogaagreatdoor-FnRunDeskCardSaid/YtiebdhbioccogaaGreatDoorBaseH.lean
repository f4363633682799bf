import Derived.Test.YtiebdhbioccogaaGreatDoorBaseQ
import Derived.Test.YtiebdhbioccogaaGreatDoorBaseE
import Derived.Test.YtiebdhbioccogaaGreatDoorBaseC
import Derived.Test.YtiebdhbioccogaaGreatDoorCel
import Derived.Lib.MapLaws
namespace Go.Proofs.YtiebdhbioccogaaGreatDoor
set_option linter.unusedVariables false

/-! ### texts of classes: no program in sight -/
theorem ba_assoc (a b c : ByteArray) : (a ++ b) ++ c = a ++ (b ++ c) := by
  apply ByteArray.ext
  simp only [ByteArray.data_append, Array.append_assoc]
theorem ba_nil (a : ByteArray) : a ++ ⟨#[]⟩ = a := by
  apply ByteArray.ext
  rw [ByteArray.data_append]
  simp
def eqB : ByteArray := ⟨#[32, 61, 32]⟩
def nlB : ByteArray := ⟨#[10]⟩
def lineB (d : D) : ByteArray := ((d.name ++ eqB) ++ itoaB d.val) ++ nlB
def linesB : List D → ByteArray
  | [] => ⟨#[]⟩
  | d :: r => lineB d ++ linesB r
theorem linesB_snoc (d : D) : ∀ l : List D, linesB (l ++ [d]) = linesB l ++ lineB d
  | [] => by
    show lineB d ++ (⟨#[]⟩ : ByteArray) = (⟨#[]⟩ : ByteArray) ++ lineB d
    rw [ba_nil, nil_app]
  | x :: r => by rw [List.cons_append, linesB, linesB_snoc d r, linesB, ba_assoc]
theorem linesB_succ {l : List D} {k : Nat} (hk : k < l.length) : linesB (l.take (k + 1)) = linesB (l.take k) ++ lineB l[k] := by
  rw [List.take_succ_eq_append_getElem hk, linesB_snoc]
/-- What is written of a definition, piece by piece. -/
theorem line_four (t : ByteArray) (d : D) : (((t ++ d.name) ++ eqB) ++ itoaB d.val) ++ nlB = t ++ lineB d := by
  unfold lineB
  rw [ba_assoc, ba_assoc, ba_assoc, ba_assoc, ba_assoc]
theorem itoaB_size {v : Int} (h0 : -5000 ≤ v) (h1 : v ≤ 5000) : (itoaB v).size ≤ 6 := by
  by_cases h : 0 ≤ v
  · obtain ⟨n, rfl⟩ : ∃ n : Nat, v = n := ⟨v.toNat, by omega⟩
    rw [itoaB_pos]
    have := decB_size 4 n (by omega)
    omega
  · obtain ⟨n, hn⟩ : ∃ n : Nat, v = -(n : Int) := ⟨(-v).toNat, by omega⟩
    subst hn
    rw [itoaB_neg n (by omega), ByteArray.size_append]
    have := decB_size 4 n (by omega)
    show 1 + _ ≤ 6
    omega
theorem lineB_size {d : D} (h : d.name.size ≤ 6) (h0 : -5000 ≤ d.val) (h1 : d.val ≤ 5000) : (lineB d).size ≤ 16 := by
  have := itoaB_size h0 h1
  unfold lineB
  rw [ByteArray.size_append, ByteArray.size_append, ByteArray.size_append]
  show d.name.size + 3 + _ + 1 ≤ 16
  omega
theorem linesB_size : ∀ l : List D, (∀ d ∈ l, d.name.size ≤ 6 ∧ -5000 ≤ d.val ∧ d.val ≤ 5000) → (linesB l).size ≤ 16 * l.length
  | [], _ => Nat.le_refl _
  | d :: r, h => by
    have h1 := linesB_size r (fun x hx => h x (List.mem_cons_of_mem _ hx))
    obtain ⟨a, b, c⟩ := h d (List.mem_cons_self ..)
    have h2 := lineB_size a b c
    rw [linesB, ByteArray.size_append, List.length_cons]
    omega
def enumB : ByteArray := ⟨#[101, 110, 117, 109]⟩
def mEnumT (ds : List D) : ByteArray := if vEnum ds then (enumB ++ nlB) ++ linesB ds else ⟨#[]⟩
def boundB (b : Int) : ByteArray := if b = 0 then ⟨#[115, 116, 114, 105, 99, 116]⟩ else if b = 1 then ⟨#[102, 105, 116]⟩ else if b = 2 then ⟨#[101, 106, 101, 99, 116]⟩ else ⟨#[107, 101, 101, 112]⟩
def flagB : ByteArray := ⟨#[102, 108, 97, 103, 32]⟩
def mFlagT (ds : List D) (b : Int) : ByteArray := if vFlag ds b then ((flagB ++ boundB b) ++ nlB) ++ linesB ds else ⟨#[]⟩
theorem enum_small {ds : List D} (hv : vEnum ds = true) : ∀ d ∈ ds, d.name.size ≤ 6 ∧ -5000 ≤ d.val ∧ d.val ≤ 5000 := by
  intro d hd
  have h1 := vEnum_name hv d hd
  have h2 := vEnum_val hv d hd
  unfold vName at h1
  simp only [Bool.and_eq_true, decide_eq_true_eq] at h1
  exact ⟨h1.1.2, by omega, by omega⟩
theorem flag_small {ds : List D} {b : Int} (hv : vFlag ds b = true) : ∀ d ∈ ds, d.name.size ≤ 6 ∧ -5000 ≤ d.val ∧ d.val ≤ 5000 := by
  intro d hd
  have h2 := vFlag_in hv d hd
  unfold inR at h2
  exact ⟨flag_name6 hv hd, by omega, by omega⟩
end Go.Proofs.YtiebdhbioccogaaGreatDoor

namespace Go.Proofs.YtiebdhbioccogaaGreatDoor
open Go.RowKit Go.Maps
set_option linter.unusedVariables false
set_option maxRecDepth 100000

/-! ### checkedFlag -/
set_option maxHeartbeats 2000000 in
theorem checkedFlag_v (ds : List D) (b : Int) (A : Option Addr) (n c : Nat) (w : World) (hr : SD w w.heap.size A n c ds) (hn : n ≤ 1048576) {v : Bool} (hv : vFlag ds b = v) {A' : Option Addr} {n' c' : Nat} {b' : Int}
    (hq : if v then A' = A ∧ n' = n ∧ c' = c ∧ b' = b else A' = none ∧ n' = 0 ∧ c' = 0 ∧ b' = 0) :
    Calls Tryz.prog 80 #[.agg #[.slice A n c, .int .i64 b]] w fun e w' => e = .returned (.tuple #[.agg #[.slice A' n' c', .int .i64 b'], .bool v]) ∧ Below w.heap.size w w' := by
  have HF := Lib.hid ((FB.start hr b).alloc (.cells #[.slice none 0 0, .int .i64 0] 35))
  have HC : Hid (C2 ((w.alloc (.cells #[.slice A n c, .int .i64 b] 35)).alloc (.cells #[.slice none 0 0, .int .i64 0] 35)) (w.heap.size + 1) (.slice none 0 0) (.int .i64 0)) := Lib.hid (c2New' _ _ _ _ _)
  have HV := Lib.hid hv
  clear hr hv
  have p2 : w.heap.size ≤ w.heap.size + 1 := by omega
  cases v
  · obtain ⟨rfl, rfl, rfl, rfl⟩ := hq
    go_enter Tryz.func80, Tryz.ntmps80
    go_wp2_with fail
    refine (implVF_v ds b _ _ _ _ HF.out.sd hn HV.out).mono ?_
    rintro e w1 ⟨rfl, hb⟩
    have HF1 := Lib.hid (HF.out.call hb)
    obtain ⟨c0, c1, f0, f1⟩ := HC.out.below hb
    clear hb
    go_wp2
    exact bodyPost_ret (v := .tuple #[.agg #[.slice none 0 0, .int .i64 0], .bool false]) (by simp [results, Tryz.results80, go_sem, c0, c1]) rfl ⟨rfl, (HF1.out.bel.setCell p2 _).setCell p2 _⟩
  · obtain ⟨rfl, rfl, rfl, rfl⟩ := hq
    go_enter Tryz.func80, Tryz.ntmps80
    go_wp2_with fail
    refine (implVF_v ds b' _ _ _ _ HF.out.sd hn HV.out).mono ?_
    rintro e w1 ⟨rfl, hb⟩
    have HF1 := Lib.hid (HF.out.call hb)
    obtain ⟨c0, c1, f0, f1⟩ := HC.out.below hb
    have k0 := HF1.out.c0
    have k1 := HF1.out.c1
    clear hb
    go_wp2
    exact bodyPost_ret (v := .tuple #[.agg #[.slice A' n' c', .int .i64 b'], .bool true]) (by simp [results, Tryz.results80, go_sem, c0, c1]) rfl ⟨rfl, (HF1.out.bel.setCell p2 _).setCell p2 _⟩

/-! ### WithBound -/
def WithQ (ds : List D) (b2 : Int) (v : Bool) (es : List D) (rb : Int) : Prop := (v = true ∧ es = ds ∧ rb = b2) ∨ (v = false ∧ es = [] ∧ rb = 0)
theorem withQ_no {ds es : List D} {b2 rb : Int} {v : Bool} {w : World} (h : WithQ ds b2 v es rb) (hv : v = false) : FlagR es rb v w = FlagR [] 0 false w := by
  rcases h with ⟨h1, _⟩ | ⟨_, rfl, rfl⟩
  · rw [hv] at h1; cases h1
  · rw [hv]
theorem withQ_yes {ds es : List D} {b2 rb : Int} {v : Bool} {w : World} (h : WithQ ds b2 v es rb) (hv : v = true) : FlagR es rb v w = FlagR ds b2 true w := by
  rcases h with ⟨_, rfl, rfl⟩ | ⟨h1, _⟩
  · rw [hv]
  · rw [hv] at h1; cases h1
def mWith (ds : List D) (b b2 : Int) : Bool := vFlag ds b && vFlag ds b2
def withDs (ds : List D) (b b2 : Int) : List D := if mWith ds b b2 then ds else []
def withBd (ds : List D) (b b2 : Int) : Int := if mWith ds b b2 then b2 else 0
theorem withQ_is (ds : List D) (b b2 : Int) : WithQ ds b2 (mWith ds b b2) (withDs ds b b2) (withBd ds b b2) := by
  unfold WithQ withDs withBd; cases mWith ds b b2 <;> simp
theorem withDs_len (ds : List D) (b b2 : Int) : (withDs ds b b2).length ≤ 12 := by
  unfold withDs
  cases h : mWith ds b b2
  · exact Nat.zero_le _
  · unfold mWith at h
    simp at h
    exact vFlag_len h.1
theorem withDs_ok {ds : List D} {b b2 : Int} (h : ∀ d ∈ ds, d.ok) : ∀ d ∈ withDs ds b b2, d.ok := by
  intro d hd
  unfold withDs at hd
  split at hd
  · exact h d hd
  · cases hd
end Go.Proofs.YtiebdhbioccogaaGreatDoor

namespace Go.Proofs.YtiebdhbioccogaaGreatDoor
open Go.RowKit Go.Maps
set_option linter.unusedVariables false
set_option maxRecDepth 100000

/-! ### what is built of items, as a class of flags -/
def bldFD (ds : List D) (t : It) : D := ⟨t.name, if t.auto then ((mNb ds : Nat) : Int) else t.val⟩
def bldF (ts : List It) : Nat → List D
  | 0 => []
  | k + 1 => bldF ts k ++ (match ts[k]? with | some t => [bldFD (bldF ts k) t] | none => [])
theorem bldF_succ (ts : List It) (k : Nat) (h : k < ts.length) : bldF ts (k + 1) = bldF ts k ++ [bldFD (bldF ts k) ts[k]] := by
  show bldF ts k ++ _ = _
  rw [List.getElem?_eq_getElem h]
theorem bldF_len (ts : List It) (k : Nat) (h : k ≤ ts.length) : (bldF ts k).length = k := by
  induction k with
  | zero => rfl
  | succ k ih => rw [bldF_succ ts k (by omega), List.length_append, ih (by omega)]; rfl
/-- The values that are told are values of flags. -/
def rngT (ts : List It) (k : Nat) : Prop := ∀ i (h : i < ts.length), i < k → ts[i].auto = false → 0 ≤ ts[i].val ∧ ts[i].val ≤ 4095
theorem bldF_lt {ts : List It} (k : Nat) (hk : k ≤ ts.length) (h : rngT ts k) : ∀ d ∈ bldF ts k, 0 ≤ d.val ∧ d.val < ((2 ^ (12 + k) : Nat) : Int) := by
  induction k with
  | zero => intro d hd; cases hd
  | succ k ih =>
    have ih' := ih (by omega) (fun i hi hik => h i hi (by omega))
    have hp : 2 ^ (12 + (k + 1)) = 2 * 2 ^ (12 + k) := by rw [← Nat.add_assoc, Nat.pow_succ]; omega
    have hp1 : 4096 ≤ 2 ^ (12 + k) := Nat.pow_le_pow_right (n := 2) (i := 12) (by decide) (by omega)
    have hm : mMask (bldF ts k) < 2 ^ (12 + k) := mMask_lt (b := 12 + k) (by intro d hd; have := ih' d hd; exact ⟨this.1, by exact_mod_cast this.2⟩)
    have hl := mNb_le (b := 12 + k) hm
    rw [bldF_succ ts k (by omega), hp]
    generalize 2 ^ (12 + k) = P at *
    intro d hd
    rcases List.mem_append.1 hd with hd | hd
    · have := ih' d hd; omega
    · simp at hd; subst hd
      unfold bldFD
      cases ha : ts[k].auto
      · have := h k (by omega) (by omega) ha
        show 0 ≤ ts[k].val ∧ ts[k].val < ((2 * P : Nat) : Int)
        omega
      · show 0 ≤ ((mNb (bldF ts k) : Nat) : Int) ∧ ((mNb (bldF ts k) : Nat) : Int) < ((2 * P : Nat) : Int)
        omega
theorem bldF_small {ts : List It} (k : Nat) (hk : k ≤ ts.length) (h12 : k ≤ 12) (h : rngT ts k) : Small40 (bldF ts k) := by
  intro d hd
  have h1 := bldF_lt k hk h d hd
  have h2 : 2 ^ (12 + k) ≤ 2 ^ 24 := Nat.pow_le_pow_right (n := 2) (by decide) (by omega)
  have h3 : (2 : Nat) ^ 24 = 16777216 := by decide
  omega
theorem bldF_ok {ts : List It} (h : ∀ t ∈ ts, t.ok) (k : Nat) (hk : k ≤ ts.length) (h12 : k ≤ 12) (hr : rngT ts k) : ∀ d ∈ bldF ts k, d.ok := by
  have hs := bldF_small k hk h12 hr
  have key : ∀ k, k ≤ ts.length → ∀ d ∈ bldF ts k, d.name.size ≤ maxLen := by
    intro k
    induction k with
    | zero => intro _ d hd; cases hd
    | succ k ih =>
      intro hk d hd
      rw [bldF_succ ts k (by omega)] at hd
      rcases List.mem_append.1 hd with hd | hd
      · exact ih (by omega) d hd
      · simp at hd; subst hd
        exact (h _ (List.getElem_mem (show k < ts.length by omega))).1
  intro d hd
  have h1 := hs d hd
  exact ⟨key k hk d hd, by omega, by omega⟩
/-- What stands in a list that is being built of the first k items. -/
def InvB (ts : List It) (k : Nat) (es : List D) : Prop :=
  (∀ i (h : i < ts.length), i < k → ∃ d, es[i]? = some d ∧ d.name = ts[i].name ∧ (ts[i].auto = false → d.val = ts[i].val)) ∧ (rngT ts k → es = bldF ts k)
theorem invB_zero (ts : List It) : InvB ts 0 [] := ⟨fun i h hi => absurd hi (by omega), fun _ => rfl⟩
theorem invB_succ {ts : List It} {k : Nat} {es : List D} {v : Int} (h : InvB ts k es) (hl : es.length = k) (hk : k < ts.length) (hv : ts[k].auto = false → v = ts[k].val) (hn : ts[k].auto = true → rngT ts k → v = ((mNb es : Nat) : Int)) : InvB ts (k + 1) (es ++ [⟨ts[k].name, v⟩]) := by
  refine ⟨fun i hi hik => ?_, fun hr => ?_⟩
  · by_cases e : i = k
    · subst e
      exact ⟨⟨ts[i].name, v⟩, by rw [List.getElem?_append_right (by omega), hl]; simp, rfl, fun ha => hv ha⟩
    · obtain ⟨d, h1, h2⟩ := h.1 i hi (by omega)
      exact ⟨d, by rw [List.getElem?_append_left (by omega)]; exact h1, h2⟩
  · have hr' : rngT ts k := fun i hi hik => hr i hi (by omega)
    have he := h.2 hr'
    rw [bldF_succ ts k hk, ← he]
    congr 1
    unfold bldFD
    cases ha : ts[k].auto
    · rw [hv ha]; rfl
    · rw [hn ha hr']; rfl
def builtF (ts : List It) (b : Int) : Bool := vItems 0 4095 ts && vFlag (bldF ts ts.length) b
def mBldF (ts : List It) (b : Int) : List D := if builtF ts b then bldF ts ts.length else []
def mBldB (ts : List It) (b : Int) : Int := if builtF ts b then b else 0
theorem vItems_of {ts : List It} {es : List D} (hlen : es.length = ts.length) (hI : ∀ i (h : i < ts.length), ∃ d, es[i]? = some d ∧ d.name = ts[i].name ∧ (ts[i].auto = false → d.val = ts[i].val))
    (h1 : onceTo ts ts.length) (h2 : ts.length ≤ 12) (hv : vDefs 0 4095 es = true) : vItems 0 4095 ts = true := by
  unfold vItems
  rw [decide_eq_true h2, Bool.and_true, decide_eq_true_eq]
  intro i hi _
  obtain ⟨d, hd, hn, hval⟩ := hI i hi
  have hie : i < es.length := by omega
  have hdi : es[i] = d := by rw [List.getElem?_eq_getElem hie] at hd; exact Option.some.inj hd
  have hg := vDefs_good hv i hie hie
  rw [hdi] at hg
  unfold goodAt at hg
  simp only [Bool.and_eq_true, decide_eq_true_eq] at hg
  obtain ⟨⟨g1, g2⟩, g3⟩ := hg
  have ho := h1 i hi hi
  unfold goodT
  simp only [Bool.and_eq_true, decide_eq_true_eq, Bool.not_eq_true', ho, and_true]
  refine ⟨⟨by rw [← hn]; exact g1, ?_⟩, ?_⟩
  · cases ha : ts[i].auto
    · rw [hval ha] at g2; exact g2
    · rw [ha] at ho; simp at ho; omega
  · rw [List.any_eq_false]
    intro t ht
    obtain ⟨j, hj, rfl⟩ := List.mem_iff_getElem.1 ht
    have hj' : j < i := by simp at hj; omega
    rw [List.getElem_take]
    intro he
    obtain ⟨d2, hd2, hn2, _⟩ := hI j (by omega)
    have hje : j < (es.take i).length := by simp; omega
    have hjd : (es.take i)[j] = d2 := by
      rw [List.getElem_take]
      rw [List.getElem?_eq_getElem (show j < es.length by omega)] at hd2
      exact Option.some.inj hd2
    rcases fidx_cases (isNm d.name) (es.take i) with ⟨_, hn3⟩ | ⟨m, hm, h3, _⟩
    · have h4 := hn3 j hje hje
      rw [hjd] at h4
      have h5 : isNm d.name d2 = true := by unfold isNm; rw [hn, hn2]; exact he
      rw [h5] at h4; cases h4
    · omega
theorem vItems_rng {ts : List It} (h : vItems 0 4095 ts = true) : rngT ts ts.length := by
  unfold vItems at h
  simp only [Bool.and_eq_true, decide_eq_true_eq] at h
  intro i hi _ _
  have := h.1 i hi hi
  unfold goodT at this
  simp only [Bool.and_eq_true, decide_eq_true_eq] at this
  exact this.1.2
theorem builtF_end {ts : List It} {es : List D} {b : Int} (hlen : es.length = ts.length) (hI : InvB ts ts.length es) (h1 : onceTo ts ts.length) (h2 : ts.length ≤ 12) :
    builtF ts b = vFlag es b ∧ (vFlag es b = true → es = bldF ts ts.length) := by
  cases hv : vFlag es b
  · refine ⟨?_, fun h => by cases h⟩
    unfold builtF
    cases hi : vItems 0 4095 ts
    · rfl
    · rw [← hI.2 (vItems_rng hi), hv]; rfl
  · have hvi := vItems_of hlen (fun i h => hI.1 i h h) h1 h2 (vFlag_defs hv)
    have he := hI.2 (vItems_rng hvi)
    refine ⟨?_, fun _ => he⟩
    unfold builtF; rw [hvi, ← he, hv]; rfl
theorem builtF_not {ts : List It} {b : Int} (h : (∃ i, ∃ hi : i < ts.length, (ts[i].auto && ts[i].val != 0) = true) ∨ 12 < ts.length) : builtF ts b = false := by
  unfold builtF
  have : vItems 0 4095 ts = false := by
    rcases h with ⟨i, hi, h⟩ | h
    · exact vItems_bad hi (by unfold goodT; rw [h]; simp)
    · unfold vItems; rw [decide_eq_false (show ¬ ts.length ≤ 12 by omega), Bool.and_false]
  rw [this]; rfl
theorem vItems_len {ts : List It} (h : vItems 0 4095 ts = true) : ts.length ≤ 12 := by unfold vItems at h; simp only [Bool.and_eq_true, decide_eq_true_eq] at h; exact h.2
theorem mBldF_len (ts : List It) (b : Int) : (mBldF ts b).length ≤ 12 := by
  unfold mBldF
  cases h : builtF ts b
  · exact Nat.zero_le _
  · show (bldF ts ts.length).length ≤ 12
    rw [bldF_len ts _ (Nat.le_refl _)]
    unfold builtF at h; simp only [Bool.and_eq_true] at h
    exact vItems_len h.1
theorem mBldF_ok {ts : List It} {b : Int} (hok : ∀ t ∈ ts, t.ok) : ∀ d ∈ mBldF ts b, d.ok := by
  unfold mBldF
  cases h : builtF ts b
  · intro d hd; cases hd
  · unfold builtF at h; simp only [Bool.and_eq_true] at h
    exact bldF_ok hok _ (Nat.le_refl _) (vItems_len h.1) (vItems_rng h.1)
/-- What is answered. -/
def BldFP (ts : List It) (b : Int) (w : World) (e : Ending) (w' : World) : Prop := FlagR (mBldF ts b) (mBldB ts b) (builtF ts b) w e w'
theorem bldFP_no {ts : List It} {b : Int} {w w' : World} (h : builtF ts b = false) (hb : Below w.heap.size w w') : BldFP ts b w (.returned (.tuple #[.agg #[.slice none 0 0, .int .i64 0], .bool false])) w' := by
  unfold BldFP mBldF mBldB; rw [h]; exact flagR_no hb
theorem bldFP_yes {ts : List It} {b : Int} {es : List D} {w w' : World} {A : Option Addr} {k c : Nat} (h : builtF ts b = true) (he : es = bldF ts ts.length) (hk : es.length = k) (ho : w'.ownsRow w.heap.size 108 2 (.slice A k c) k (flat es)) (hb : Below w.heap.size w w') : BldFP ts b w (.returned (.tuple #[.agg #[.slice A k c, .int .i64 b], .bool true])) w' := by
  unfold BldFP mBldF mBldB; rw [h, if_pos rfl, if_pos rfl, ← he]
  subst hk
  exact ⟨A, c, rfl, ho, hb⟩
/-- The next bit, whatever stands ahead. -/
theorem implNb_u (ds : List D) (A : Option Addr) (n c : Nat) (w : World) (hr : SD w w.heap.size A n c ds) :
    Calls Tryz.prog 79 #[.slice A n c] w fun e w' => ∃ r : Int, e = .returned (.int .i64 r) ∧ (-9223372036854775808 ≤ r ∧ r ≤ 9223372036854775807) ∧ (Small40 ds → r = ((mNb ds : Nat) : Int)) ∧ Below w.heap.size w w' := by
  by_cases h : Small40 ds
  · refine (implNb_v ds A n c w hr h rfl).mono ?_
    rintro e w' ⟨rfl, hb⟩
    have h1 := mNb_le (b := 40) (mMask_lt (b := 40) h)
    have h3 : (2 : Nat) ^ 40 = 1099511627776 := by decide
    exact ⟨_, rfl, by omega, fun _ => rfl, hb⟩
  · refine (implNb_w ds A n c w hr).mono ?_
    rintro e w' ⟨r, rfl, hr, hb⟩
    exact ⟨r, rfl, hr, fun h2 => absurd h2 h, hb⟩
/-- What a loop that builds keeps. -/
structure KeepB (w0 w : World) (G : Nat) (ts : List It) (k : Nat) (es : List D) (v : Value) : Prop where
  len : es.length = k
  ok : ∀ d ∈ es, d.ok
  inv : InvB ts k es
  own : w.ownsRow G 108 2 v k (flat es)
  bel : Below w0.heap.size w0 w
end Go.Proofs.YtiebdhbioccogaaGreatDoor

namespace Go.Proofs.YtiebdhbioccogaaGreatDoor
set_option linter.unusedVariables false

/-! ### items of lines: no program in sight -/
theorem decB_inj {a b : Nat} (h : decB a = decB b) : a = b := by
  have h1 : Lib.decDigits a = Lib.decDigits b := by
    have := congrArg (fun x : ByteArray => x.data.toList) h
    simpa [decB] using this
  have h2 := decFrom_dec a
  rw [h1, decFrom_dec b] at h2
  exact (Option.some.inj h2).symm
theorem dec_nohead (n : Nat) : (decB n).data.toList.head? ≠ some 45 := by
  obtain ⟨d, r, hd, h⟩ := dec_head n
  have e : (decB n).data.toList = Lib.decDigits n := by simp [decB]
  rw [e, h]
  intro e2
  have h3 := digit_toNat hd
  rw [List.head?_cons] at e2
  rw [Option.some.inj e2] at h3
  have : (45 : UInt8).toNat = 45 := rfl
  omega
theorem itoaB_head {v : Int} (h : v < 0) : ∃ n : Nat, 0 < n ∧ v = -(n : Int) ∧ (itoaB v).data.toList = 45 :: (decB n).data.toList := by
  refine ⟨(-v).toNat, by omega, by omega, ?_⟩
  have e : v = -(((-v).toNat : Nat) : Int) := by omega
  rw [e, itoaB_neg _ (by omega), ByteArray.data_append, Array.toList_append]
  have : (-(-(((-v).toNat : Nat) : Int))).toNat = (-v).toNat := by omega
  rw [this]
  rfl
theorem itoaB_nospace (v : Int) : ∀ c ∈ (itoaB v).data.toList, c ≠ 32 := by
  intro c hc e
  subst e
  by_cases h : v < 0
  · obtain ⟨n, _, _, e⟩ := itoaB_head h
    rw [e] at hc
    rcases List.mem_cons.1 hc with hc | hc
    · exact absurd hc (by decide)
    · have := dec_digit n 32 (by simpa [decB] using hc)
      have : (32 : UInt8).toNat = 32 := rfl
      omega
  · obtain ⟨n, rfl⟩ : ∃ n : Nat, v = n := ⟨v.toNat, by omega⟩
    rw [itoaB_pos] at hc
    have := dec_digit n 32 (by simpa [decB] using hc)
    have : (32 : UInt8).toNat = 32 := rfl
    omega
/-- The model's number with a sign. -/
def rdSg (s : ByteArray) : Option Int := match numOf s with
  | some v => if -4096 ≤ v ∧ v ≤ 4096 then some v else none
  | none => none
def minus (s : ByteArray) : Bool := decide (s.data.toList.head? = some 45)
theorem rdSg_plain {s : ByteArray} (h : minus s = false) : rdSg s = if mRdN s < 0 then none else some (mRdN s) := by
  unfold minus at h
  rw [decide_eq_false_iff_not] at h
  rcases mRdN_cases s with h1 | ⟨n, hn, hs, h1⟩
  · rw [h1, if_pos (by decide)]
    unfold rdSg
    cases e : numOf s with
    | none => rfl
    | some v =>
      simp only
      rw [if_neg]
      intro hr
      by_cases hv : v < 0
      · obtain ⟨n, _, _, e2⟩ := itoaB_head hv
        rw [(numOf_some e).1, e2] at h
        exact h rfl
      · obtain ⟨n, rfl⟩ : ∃ n : Nat, v = n := ⟨v.toNat, by omega⟩
        have := (numOf_iff s n (by omega)).1 e
        omega
  · rw [h1, if_neg (by omega)]
    unfold rdSg
    rw [(numOf_iff s n hn).2 h1]
    simp only
    rw [if_pos ⟨by omega, by omega⟩]
theorem tail_list {s : ByteArray} : (s.extract 1 s.size).data.toList = s.data.toList.drop 1 := by
  rw [ByteArray.data_extract, Array.toList_extract]
  have : s.data.toList.length = s.size := Array.length_toList
  rw [List.extract_eq_take_drop, List.take_of_length_le]
  rw [List.length_drop]
  omega
theorem rdSg_minus {s : ByteArray} (h : minus s = true) : rdSg s = if mRdN (s.extract 1 s.size) ≤ 0 then none else some (-(mRdN (s.extract 1 s.size))) := by
  unfold minus at h
  rw [decide_eq_true_iff] at h
  obtain ⟨r, hr⟩ : ∃ r, s.data.toList = 45 :: r := by
    cases e : s.data.toList with
    | nil => rw [e] at h; cases h
    | cons x r => rw [e] at h; simp at h; subst h; exact ⟨r, rfl⟩
  have ht : (s.extract 1 s.size).data.toList = r := by rw [tail_list, hr]; rfl
  have back : ∀ v : Int, numOf s = some v → ∃ n : Nat, 0 < n ∧ v = -(n : Int) ∧ s.extract 1 s.size = decB n := by
    intro v e
    have hs := (numOf_some e).1
    by_cases hv : v < 0
    · obtain ⟨n, hn, e1, e2⟩ := itoaB_head hv
      refine ⟨n, hn, e1, ?_⟩
      rw [← hs, hr] at e2
      apply ByteArray.ext
      apply Array.ext'
      rw [ht]
      exact (List.cons.inj e2).2
    · obtain ⟨n, rfl⟩ : ∃ n : Nat, v = n := ⟨v.toNat, by omega⟩
      rw [itoaB_pos] at hs
      rw [hs] at h
      exact absurd h (dec_nohead n)
  rcases mRdN_cases (s.extract 1 s.size) with h1 | ⟨n, hn, hs, h1⟩
  · rw [h1, if_pos (by decide)]
    unfold rdSg
    cases e : numOf s with
    | none => rfl
    | some v =>
      simp only
      rw [if_neg]
      intro hr
      obtain ⟨n, _, e1, e2⟩ := back v e
      rw [e2, mRdN_dec (by omega)] at h1
      omega
  · rw [h1]
    by_cases h0 : n = 0
    · subst h0
      rw [if_pos (by decide)]
      unfold rdSg
      cases e : numOf s with
      | none => rfl
      | some v =>
        exfalso
        obtain ⟨m, hm, _, e2⟩ := back v e
        rw [hs] at e2
        have := decB_inj e2
        omega
    · rw [if_neg (by omega)]
      have e : s = itoaB (-(n : Int)) := by
        rw [itoaB_neg n (by omega)]
        apply ByteArray.ext
        apply Array.ext'
        rw [ByteArray.data_append, Array.toList_append, hr, ← hs, ht]
        rfl
      unfold rdSg
      have e2 : numOf s = some (-(n : Int)) := by
        conv => lhs; rw [e]
        exact numOf_itoa (by omega) (by omega)
      rw [e2]
      simp only
      rw [if_pos ⟨by omega, by omega⟩]
theorem rdSg_num {s : ByteArray} {v : Int} (h : rdSg s = some v) : numOf s = some v ∧ -4096 ≤ v ∧ v ≤ 4096 := by
  unfold rdSg at h
  split at h
  · rename_i u hu
    split at h
    · rename_i hr
      cases h
      exact ⟨hu, hr⟩
    · cases h
  · cases h

/-! ### an item of a line, as the program and as the model read it -/
def itI (s : ByteArray) : Option It := if (Lib.cut s.data.toList eqB.data.toList).2.2 then (match numOf ⟨(Lib.cut s.data.toList eqB.data.toList).2.1.toArray⟩ with
    | some v => some ⟨⟨(Lib.cut s.data.toList eqB.data.toList).1.toArray⟩, false, v⟩
    | none => none) else some ⟨s, true, 0⟩
def eq1B : ByteArray := ⟨#[61]⟩
def itS (s : ByteArray) : Option It := match splitT 32 s with
  | [_] => some ⟨s, true, 0⟩
  | [a, e, c] => if e = eq1B then (match rdSg c with | some v => some ⟨a, false, v⟩ | none => none) else none
  | _ => none
def badIt (x : It) : Prop := 32 ∈ x.name.data.toList ∨ x.val < -4096 ∨ 4096 < x.val
theorem pcs_glue (c : UInt8) : ∀ (l cur : List UInt8) (x : List UInt8) (r : List (List UInt8)), pcs c cur l = x :: r → cur ++ l = x ++ Lib.joinTail [c] r ∧ (∀ b ∈ cur, b ≠ c) → (∀ y ∈ x :: r, ∀ b ∈ y, b ≠ c) := by
  intro l
  induction l with
  | nil =>
    intro cur x r h ⟨_, hc⟩ y hy
    rw [pcs] at h
    cases h
    rw [List.mem_singleton.1 hy]
    exact hc
  | cons b l ih =>
    intro cur x r h ⟨h2, hc⟩
    rw [pcs] at h
    split at h
    · rename_i hb
      cases h
      intro y hy
      rcases List.mem_cons.1 hy with rfl | hy
      · exact hc
      · obtain ⟨x2, r2, e⟩ : ∃ x2 r2, pcs c [] l = x2 :: r2 := by
          cases e : pcs c [] l with
          | nil => have := (pcs_len c l []).2; rw [e] at this; simp at this
          | cons x2 r2 => exact ⟨x2, r2, rfl⟩
        have h3 : [] ++ l = x2 ++ Lib.joinTail [c] r2 := by
          subst hb
          rw [e] at h2
          have : Lib.joinTail [b] (x2 :: r2) = b :: (x2 ++ Lib.joinTail [b] r2) := by simp [Lib.joinTail]
          rw [this] at h2
          exact (List.cons.inj (List.append_cancel_left h2)).2
        rw [e] at hy
        exact ih [] x2 r2 e ⟨h3, fun _ h => by cases h⟩ y hy
    · rename_i hb
      refine ih (cur ++ [b]) x r h ⟨by rw [← h2]; simp, ?_⟩
      intro z hz
      rcases List.mem_append.1 hz with hz | hz
      · exact hc z hz
      · rw [List.mem_singleton.1 hz]; exact hb
theorem pcs_join (c : UInt8) : ∀ (l cur x : List UInt8) (r : List (List UInt8)), pcs c cur l = x :: r → cur ++ l = x ++ Lib.joinTail [c] r
  | [], cur, x, r, h => by
    rw [pcs] at h
    cases h
    simp [Lib.joinTail]
  | b :: l, cur, x, r, h => by
    rw [pcs] at h
    split at h
    · rename_i hb
      subst hb
      cases h
      cases e : pcs b [] l with
      | nil => have := (pcs_len b l []).2; rw [e] at this; simp at this
      | cons x2 r2 =>
        have h1 := pcs_join b l [] x2 r2 e
        rw [List.nil_append] at h1
        have : Lib.joinTail [b] (x2 :: r2) = b :: (x2 ++ Lib.joinTail [b] r2) := by simp [Lib.joinTail]
        rw [this, h1]
    · have := pcs_join c l (cur ++ [b]) x r h
      rw [← this]
      simp
theorem splitT_list (c : UInt8) (s : ByteArray) : (splitT c s).map (·.data.toList) = pcs c [] s.data.toList := by
  unfold splitT
  rw [List.map_map]
  conv => rhs; rw [← List.map_id (pcs c [] s.data.toList)]
  exact List.map_congr_left fun x _ => by simp
theorem split_one {s x : ByteArray} {c : UInt8} (h : splitT c s = [x]) : ∀ b ∈ s.data.toList, b ≠ c := by
  have h1 := splitT_list c s
  rw [h] at h1
  have h2 := pcs_join c _ _ _ _ h1.symm
  have h3 := pcs_glue c _ _ _ _ h1.symm ⟨h2, fun _ h => by cases h⟩
  simp [Lib.joinTail] at h2
  rw [h2]
  exact h3 _ (List.mem_cons_self ..)
theorem split_three {s a e d : ByteArray} {c : UInt8} (h : splitT c s = [a, e, d]) : s.data.toList = a.data.toList ++ c :: (e.data.toList ++ c :: d.data.toList) ∧ (∀ b ∈ a.data.toList, b ≠ c) ∧ (∀ b ∈ d.data.toList, b ≠ c) := by
  have h1 := splitT_list c s
  rw [h] at h1
  have h2 := pcs_join c _ _ _ _ h1.symm
  have h3 := pcs_glue c _ _ _ _ h1.symm ⟨h2, fun _ h => by cases h⟩
  refine ⟨by simpa [Lib.joinTail] using h2, h3 _ (List.mem_cons_self ..), h3 _ (by simp)⟩
theorem split_no {s : ByteArray} {c : UInt8} (h : ∀ b ∈ s.data.toList, b ≠ c) : splitT c s = [s] := by
  unfold splitT
  rw [pcs_miss c _ _ h]
  rfl
theorem index_at {u v : List UInt8} (hu : ∀ b ∈ u, b ≠ 32) : Lib.index (u ++ 32 :: 61 :: 32 :: v) [32, 61, 32] = (u.length : Int) := by
  refine Lib.index_first (by simp) ?_ ?_
  · unfold Lib.occAt
    rw [List.drop_left]
    simp [List.isPrefixOf]
  · intro j hj
    unfold Lib.occAt
    rw [List.drop_append_of_le_length (by omega)]
    obtain ⟨x, r, e⟩ : ∃ x r, u.drop j = x :: r := by
      cases e : u.drop j with
      | nil => have := congrArg List.length e; rw [List.length_drop, List.length_nil] at this; omega
      | cons x r => exact ⟨x, r, rfl⟩
    have hx : x ≠ 32 := hu x (List.mem_of_mem_drop (by rw [e]; exact List.mem_cons_self ..))
    rw [e]
    simp [List.isPrefixOf, Ne.symm hx]
theorem index_no {s : List UInt8} (hs : ∀ b ∈ s, b ≠ 32) : Lib.index s [32, 61, 32] = -1 := by
  refine Lib.index_none ?_
  intro j hj
  unfold Lib.occAt
  cases e : s.drop j with
  | nil => rfl
  | cons x r =>
    have hx : x ≠ 32 := hs x (List.mem_of_mem_drop (by rw [e]; exact List.mem_cons_self ..))
    simp [List.isPrefixOf, Ne.symm hx]
theorem cut_hit {u v : List UInt8} {s : List UInt8} (hu : Lib.index s [32, 61, 32] = (u.length : Int)) (h : s = u ++ 32 :: 61 :: 32 :: v) : Lib.cut s [32, 61, 32] = (u, v, true) := by
  unfold Lib.cut
  rw [hu, if_pos (by omega), Int.toNat_natCast]
  subst h
  rw [List.take_left, show u.length + ([32, 61, 32] : List UInt8).length = (u ++ [32, 61, 32]).length by simp, show u ++ 32 :: 61 :: 32 :: v = (u ++ [32, 61, 32]) ++ v by simp, List.drop_left]
theorem cut_miss {s : List UInt8} (h : Lib.index s [32, 61, 32] = -1) : Lib.cut s [32, 61, 32] = (s, [], false) := by
  unfold Lib.cut
  rw [h, if_neg (by decide)]
theorem eqB_list : eqB.data.toList = [32, 61, 32] := rfl
theorem mk_list (s : ByteArray) : (⟨s.data.toList.toArray⟩ : ByteArray) = s := by apply ByteArray.ext; simp
theorem it_same {s : ByteArray} {x : It} (h : itS s = some x) : itI s = some x := by
  unfold itS at h
  split at h
  · rename_i a ha
    cases h
    unfold itI
    rw [eqB_list, cut_miss (index_no (split_one ha))]
    rfl
  · rename_i a e c ha
    split at h
    · rename_i he
      subst he
      split at h
      · rename_i v hv
        cases h
        obtain ⟨h1, h2, h3⟩ := split_three ha
        have h4 : s.data.toList = a.data.toList ++ 32 :: 61 :: 32 :: c.data.toList := by rw [h1]; rfl
        have h5 := cut_hit (s := s.data.toList) (by rw [h4]; exact index_at h2) h4
        unfold itI
        rw [eqB_list, h5]
        simp only
        rw [mk_list, mk_list, (rdSg_num hv).1]
        rfl
      · cases h
    · cases h
  · cases h
theorem it_none {s : ByteArray} (h : itS s = none) : itI s = none ∨ ∃ x, itI s = some x ∧ badIt x := by
  rcases Lib.index_spec s.data.toList [32, 61, 32] with ⟨hi, _⟩ | ⟨i, hi, hil, hocc, hno⟩
  · right
    refine ⟨⟨s, true, 0⟩, ?_, .inl ?_⟩
    · unfold itI
      rw [eqB_list, cut_miss hi]
      rfl
    · by_cases hm : (32 : UInt8) ∈ s.data.toList
      · exact hm
      · exfalso
        have h1 := split_no (s := s) (c := 32) (fun b hb e => hm (by rw [← e]; exact hb))
        unfold itS at h
        rw [h1] at h
        cases h
  · obtain ⟨v, hv⟩ : ∃ v, s.data.toList.drop i = 32 :: 61 :: 32 :: v := by
      unfold Lib.occAt at hocc
      obtain ⟨v, hv⟩ := List.isPrefixOf_iff_prefix.1 hocc
      exact ⟨v, hv.symm⟩
    have hs : s.data.toList = s.data.toList.take i ++ 32 :: 61 :: 32 :: v := by rw [← hv, List.take_append_drop]
    have hul : (s.data.toList.take i).length = i := by rw [List.length_take]; omega
    have hc := cut_hit (s := s.data.toList) (u := s.data.toList.take i) (by rw [hul]; exact hi) hs
    have hI : itI s = match numOf ⟨v.toArray⟩ with
        | some n => some ⟨⟨(s.data.toList.take i).toArray⟩, false, n⟩
        | none => none := by
      unfold itI
      rw [eqB_list, hc]
      rfl
    cases hn : numOf ⟨v.toArray⟩ with
    | none => left; rw [hI, hn]
    | some n =>
      right
      rw [hn] at hI
      refine ⟨_, hI, ?_⟩
      by_cases hm : (32 : UInt8) ∈ s.data.toList.take i
      · exact .inl (by simpa using hm)
      · right
        show n < -4096 ∨ 4096 < n
        have hvs : ∀ b ∈ v, b ≠ 32 := by
          intro b hb
          have e := (numOf_some hn).1
          refine itoaB_nospace n b ?_
          rw [← e]
          exact hb
        have h1 : splitT 32 s = [⟨(s.data.toList.take i).toArray⟩, eq1B, ⟨v.toArray⟩] := by
          unfold splitT
          have hu : ∀ b ∈ s.data.toList.take i, b ≠ 32 := fun b hb e => hm (by rw [← e]; exact hb)
          conv => lhs; rw [hs]
          rw [pcs_hit 32 _ [] _ hu, show (61 : UInt8) :: 32 :: v = [61] ++ 32 :: v from rfl, pcs_hit 32 [61] [] v (by intro b hb; rw [List.mem_singleton.1 hb]; decide), pcs_miss 32 v [] hvs]
          rfl
        unfold itS at h
        rw [h1] at h
        simp only [if_true] at h
        split at h
        · cases h
        · rename_i hr
          unfold rdSg at hr
          rw [hn] at hr
          simp only at hr
          split at hr
          · cases hr
          · rename_i hrr; omega
def allIt (f : ByteArray → Option It) : List ByteArray → Option (List It)
  | [] => some []
  | s :: r => match f s with
    | some x => (match allIt f r with | some ts => some (x :: ts) | none => none)
    | none => none
theorem all_same : ∀ {l : List ByteArray} {ts : List It}, allIt itS l = some ts → allIt itI l = some ts
  | [], ts, h => h
  | s :: r, ts, h => by
    rw [allIt] at h ⊢
    split at h
    · rename_i x hx
      rw [it_same hx]
      split at h
      · rename_i us hu
        rw [all_same hu]
        exact h
      · cases h
    · cases h
theorem all_none : ∀ {l : List ByteArray}, allIt itS l = none → allIt itI l = none ∨ ∃ ts, allIt itI l = some ts ∧ ∃ x ∈ ts, badIt x
  | [], h => by rw [allIt] at h; cases h
  | s :: r, h => by
    rw [allIt] at h ⊢
    cases hS : itS s with
    | some x =>
      rw [hS] at h
      rw [it_same hS]
      simp only at h ⊢
      cases hr : allIt itS r with
      | some us => rw [hr] at h; cases h
      | none =>
        rcases all_none hr with h2 | ⟨ts, h2, y, hy, hb⟩
        · left; rw [h2]
        · right; rw [h2]; exact ⟨x :: ts, rfl, y, List.mem_cons_of_mem _ hy, hb⟩
    | none =>
      rcases it_none hS with h1 | ⟨x, h1, hb⟩
      · left; rw [h1]
      · rw [h1]
        simp only
        cases h2 : allIt itI r with
        | none => exact .inl rfl
        | some ts => exact .inr ⟨x :: ts, rfl, x, List.mem_cons_self .., hb⟩
theorem bad_name {s : ByteArray} (h : (32 : UInt8) ∈ s.data.toList) : vName s = false := by
  cases e : vName s
  · rfl
  · unfold vName okTo at e
    simp only [Bool.and_eq_true, decide_eq_true_eq] at e
    have h2 := e.2
    rw [List.take_of_length_le (by rw [Array.length_toList]; exact Nat.le_refl _), List.all_eq_true] at h2
    exact absurd (h2 32 h) (by decide)
theorem bad_vItems {lo hi : Int} {ts : List It} (hlo : -4096 ≤ lo) (hhi : hi ≤ 4096) (h : ∃ x ∈ ts, badIt x) : vItems lo hi ts = false := by
  obtain ⟨x, hx, hb⟩ := h
  obtain ⟨k, hk, rfl⟩ := List.mem_iff_getElem.1 hx
  refine vItems_bad hk ?_
  unfold goodT
  rcases hb with hb | hb | hb
  · rw [bad_name hb, Bool.false_and, Bool.false_and, Bool.false_and]
  · rw [decide_eq_false (show ¬ lo ≤ ts[k].val by omega), Bool.false_and, Bool.and_false, Bool.false_and]
  · rw [decide_eq_false (show ¬ ts[k].val ≤ hi by omega), Bool.and_false, Bool.and_false, Bool.false_and]
theorem bad_built {ts : List It} (h : ∃ x ∈ ts, badIt x) : built ts = false := by
  unfold built
  rw [bad_vItems (by decide) (by decide) h, Bool.false_and]
theorem bad_builtF {ts : List It} {b : Int} (h : ∃ x ∈ ts, badIt x) : builtF ts b = false := by
  unfold builtF
  rw [bad_vItems (by decide) (by decide) h, Bool.false_and]
end Go.Proofs.YtiebdhbioccogaaGreatDoor

namespace Go.Proofs.YtiebdhbioccogaaGreatDoor
set_option linter.unusedVariables false

/-! ### newlines and runes: no program in sight -/
theorem get_bang {s : ByteArray} {j : Nat} (hj : j < s.size) : s.get! j = s[j] := by
  show s.data[j]! = s.data[j]
  rw [getElem!_pos]
theorem nl_step (s : ByteArray) (pos : Nat) (h : pos < s.size) :
    ((Utf8.decode s pos).1 = 10 ∧ (Utf8.decode s pos).2 = 1 ∧ s[pos] = 10) ∨
    ((Utf8.decode s pos).1 ≠ 10 ∧ 1 ≤ (Utf8.decode s pos).2 ∧ pos + (Utf8.decode s pos).2 ≤ s.size ∧ ∀ j (hj : j < s.size), pos ≤ j → j < pos + (Utf8.decode s pos).2 → ¬ s[j] = 10) := by
  rw [Lib.decode_at]
  have e0 := get_bang h
  have ten : (10 : UInt8).toNat = 10 := rfl
  have nat : ∀ j (hj : j < s.size), s[j] = 10 → (s.get! j).toNat = 10 := fun j hj e => by rw [get_bang hj, e]; rfl
  rcases Lib.decodeN_shape (s.size - pos) (s.get! pos).toNat (s.get! (pos + 1)).toNat (s.get! (pos + 2)).toNat (s.get! (pos + 3)).toNat with ⟨h1, h2⟩ | ⟨h1, hn, h3, h4, h2⟩ | ⟨h1, hn, h3, h4, h5, h6, h2⟩ | ⟨h1, hn, h3, h4, h5, h6, h7, h2⟩ | h2
  · rw [h2]
    by_cases e : s[pos] = 10
    · exact .inl ⟨nat pos h e, rfl, e⟩
    · right
      refine ⟨fun e2 => e ?_, Nat.le_refl _, by omega, fun j hj h3 h4 => ?_⟩
      · simp only at e2
        rw [e0] at e2
        exact UInt8.toNat_inj.1 (by rw [e2]; rfl)
      · have : j = pos := by simp only at h4; omega
        subst this; exact e
  · rw [h2]
    right
    refine ⟨by simp only; omega, by simp only; omega, by simp only; omega, fun j hj h5 h6 e => ?_⟩
    have := nat j hj e
    simp only at h6
    rcases (show j = pos ∨ j = pos + 1 by omega) with rfl | rfl <;> omega
  · rw [h2]
    right
    refine ⟨by simp only; omega, by simp only; omega, by simp only; omega, fun j hj h7 h8 e => ?_⟩
    have := nat j hj e
    simp only at h8
    rcases (show j = pos ∨ j = pos + 1 ∨ j = pos + 2 by omega) with rfl | rfl | rfl <;> omega
  · rw [h2]
    right
    refine ⟨by simp only; omega, by simp only; omega, by simp only; omega, fun j hj h8 h9 e => ?_⟩
    have := nat j hj e
    simp only at h9
    rcases (show j = pos ∨ j = pos + 1 ∨ j = pos + 2 ∨ j = pos + 3 by omega) with rfl | rfl | rfl | rfl <;> omega
  · by_cases h128 : (s.get! pos).toNat < 128
    · have h3 : Lib.decodeN (s.size - pos) (s.get! pos).toNat (s.get! (pos + 1)).toNat (s.get! (pos + 2)).toNat (s.get! (pos + 3)).toNat = ((s.get! pos).toNat, 1) := by unfold Lib.decodeN; rw [if_pos h128]
      rw [h3] at h2
      have := congrArg Prod.fst h2
      simp only at this
      omega
    · rw [h2]
      right
      refine ⟨by decide, Nat.le_refl _, by simp only; omega, fun j hj h7 h8 e => ?_⟩
      have := nat j hj e
      have : j = pos := by simp only at h8; omega
      subst this
      omega
theorem spl_miss_n {s : ByteArray} {done : List ByteArray} {q : Nat} : ∀ (n k : Nat), q ≤ k → k + n ≤ s.size → (∀ j (hj : j < s.size), k ≤ j → j < k + n → ¬ s[j] = 10) → splSt 10 s done q k → splSt 10 s done q (k + n)
  | 0, k, _, _, _, h => h
  | n + 1, k, hq, hk, hb, h => by
    have h1 := spl_miss (c := 10) hq (show k < s.size by omega) (hb k (by omega) (Nat.le_refl _) (by omega)) h
    have := spl_miss_n n (k + 1) (by omega) (by omega) (fun j hj h2 h3 => hb j hj (by omega) (by omega)) h1
    rw [show k + (n + 1) = k + 1 + n by omega]
    exact this
/-- The lines of a text, each with a newline behind it. -/
def mLn (s : ByteArray) : Option (List ByteArray) := if 2 ≤ (splitT 10 s).length ∧ (splitT 10 s).getLast? = some ⟨#[]⟩ then some (splitT 10 s).dropLast else none
theorem mLn_end {s : ByteArray} {done : List ByteArray} {q : Nat} (hq : q ≤ s.size) (h : splSt 10 s done q s.size) : mLn s = if done ≠ [] ∧ q = s.size then some done else none := by
  have h1 := spl_end h
  unfold mLn
  rw [h1, List.length_append, List.length_singleton, List.getLast?_append, List.dropLast_concat]
  have h2 : s.extract q s.size = ⟨#[]⟩ ↔ q = s.size := by
    constructor
    · intro e
      have := congrArg ByteArray.size e
      rw [ByteArray.size_extract] at this
      have h0 : (⟨#[]⟩ : ByteArray).size = 0 := rfl
      omega
    · intro e
      subst e
      apply ByteArray.ext
      rw [ByteArray.data_extract]
      apply Array.ext'
      simp
  have h3 : (2 ≤ done.length + 1) ↔ done ≠ [] := by
    cases done with
    | nil => simp
    | cons x r => simp
  have h4 : ([s.extract q s.size].getLast?.or done.getLast? = some (⟨#[]⟩ : ByteArray)) ↔ q = s.size := by
    rw [← h2, List.getLast?_singleton, Option.some_or]
    exact ⟨fun h => Option.some.inj h, fun h => by rw [h]⟩
  by_cases hd : done ≠ []
  · by_cases hz : q = s.size
    · rw [if_pos (show 2 ≤ done.length + 1 ∧ _ from ⟨h3.2 hd, h4.2 hz⟩), if_pos ⟨hd, hz⟩]
    · rw [if_neg (show ¬ (2 ≤ done.length + 1 ∧ _) from fun h => hz (h4.1 h.2)), if_neg (fun h => hz h.2)]
  · rw [if_neg (show ¬ (2 ≤ done.length + 1 ∧ _) from fun h => hd (h3.1 h.1)), if_neg (fun h => hd h.1)]
end Go.Proofs.YtiebdhbioccogaaGreatDoor

