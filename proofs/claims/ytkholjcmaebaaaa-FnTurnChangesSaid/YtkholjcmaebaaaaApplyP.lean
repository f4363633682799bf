import Derived.Test.YtkholjcmaebaaaaAfter
import Derived.Test.YtkholjcmaebaaaaSameP
namespace Go.Proofs.Ytkholjcmaebaaaa
open Go.RowKit
set_option linter.unusedVariables false
set_option maxRecDepth 100000

/-! ### changes, one after the other -/
def okC (c : Ch) : Bool := if c.kind = 0 then 0 == c.old else if c.kind = 1 then 0 == c.new else c.kind == 2
def stepV (c : Ch) : Value := if c.kind = 0 then .iface 185 (.agg #[.string c.name, .int .i64 c.new]) else if c.kind = 1 then .iface 186 (.agg #[.string c.name, .int .i64 c.old]) else .iface 188 (.agg #[.string c.name, .int .i64 c.old, .int .i64 c.new])
def mAfter (ds : List D) (c : Ch) : Option (List D) := if c.kind = 0 then mAdd ds ⟨c.name, c.new⟩ else if c.kind = 1 then repO ds (fidx (isD ⟨c.name, c.old⟩) ds) [] else repO ds (fidx (isD ⟨c.name, c.old⟩) ds) [⟨c.name, c.new⟩]
def mStep (ds : List D) (c : Ch) : Option (List D) := if okC c then mAfter ds c else none
def runCh : List D → List Ch → Option (List D)
  | ds, [] => some ds
  | ds, c :: cs => match mStep ds c with
    | none => none
    | some es => runCh es cs
def mApply (ds : List D) (cs : List Ch) : Option (List D) := if vEnum ds && decide (cs.length ≤ 30) then runCh ds cs else none
theorem runCh_none {ds : List D} {cs : List Ch} {k : Nat} (hk : k < cs.length) (h : mStep ds cs[k] = none) : runCh ds (cs.drop k) = none := by
  rw [List.drop_eq_getElem_cons hk]; unfold runCh; rw [h]
theorem runCh_some {ds es : List D} {cs : List Ch} {k : Nat} (hk : k < cs.length) (h : mStep ds cs[k] = some es) : runCh ds (cs.drop k) = runCh es (cs.drop (k + 1)) := by
  rw [List.drop_eq_getElem_cons hk, runCh, h]
theorem mApply_no {ds : List D} {cs : List Ch} (h : vEnum ds = false ∨ 30 < cs.length) : mApply ds cs = none := by
  unfold mApply
  rcases h with h | h
  · rw [h]; rfl
  · rw [decide_eq_false (by omega)]; simp
theorem mApply_yes {ds : List D} {cs : List Ch} (h : vEnum ds = true) (hl : cs.length ≤ 30) : mApply ds cs = runCh ds cs := by
  unfold mApply; rw [h, decide_eq_true hl]; rfl
theorem chkO_some {ds es : List D} (h : chkO ds = some es) : es = ds ∧ vEnum es = true := by
  unfold chkO at h
  cases hv : vEnum ds
  · rw [hv] at h; cases h
  · rw [hv] at h; cases h; exact ⟨rfl, hv⟩
theorem mAdd_some {ds es : List D} {d : D} (h : mAdd ds d = some es) : es = ds ++ [d] ∧ vEnum es = true := by
  unfold mAdd at h
  split at h
  · exact chkO_some h
  · cases h
theorem repO_some {ds es os : List D} {i : Int} (h : repO ds i os = some es) : es = rep ds i.toNat os ∧ vEnum es = true := by
  unfold repO at h
  split at h
  · cases h
  · exact chkO_some h
theorem mStep_some {ds es : List D} {c : Ch} (h : mStep ds c = some es) : vEnum es = true ∧ ∀ x ∈ es, x ∈ ds ∨ x = ⟨c.name, c.new⟩ := by
  unfold mStep at h
  split at h
  · unfold mAfter at h
    split at h
    · obtain ⟨rfl, hv⟩ := mAdd_some h
      exact ⟨hv, fun x hx => by simpa using hx⟩
    · split at h
      · obtain ⟨rfl, hv⟩ := repO_some h
        exact ⟨hv, fun x hx => by rcases rep_mem hx with h | h; exact .inl h; simp at h⟩
      · obtain ⟨rfl, hv⟩ := repO_some h
        exact ⟨hv, fun x hx => by rcases rep_mem hx with h | h; exact .inl h; exact .inr (by simpa using h)⟩
  · cases h
theorem mStep_ok {ds es : List D} {c : Ch} (h : mStep ds c = some es) (hd : ∀ x ∈ ds, x.ok) (hc : c.ok) : ∀ x ∈ es, x.ok := fun x hx => by
  rcases (mStep_some h).2 x hx with h | h
  · exact hd x h
  · rw [h]; exact ⟨hc.1, hc.2.2.2⟩
theorem runCh_ok (cs : List Ch) : ∀ {ds es : List D}, runCh ds cs = some es → vEnum ds = true → (∀ x ∈ ds, x.ok) → (∀ c ∈ cs, c.ok) → vEnum es = true ∧ ∀ x ∈ es, x.ok := by
  induction cs with
  | nil => intro ds es h hv hd _; unfold runCh at h; cases h; exact ⟨hv, hd⟩
  | cons c cs ih =>
    intro ds es h hv hd hc
    unfold runCh at h
    split at h
    · cases h
    · rename_i e1 he
      exact ih h (mStep_some he).1 (mStep_ok he hd (hc c (by simp))) (fun x hx => hc x (by simp [hx]))
theorem mApply_ok {ds : List D} {cs : List Ch} (hd : ∀ x ∈ ds, x.ok) (hc : ∀ c ∈ cs, c.ok) : ((mApply ds cs).getD []).length ≤ 12 ∧ ∀ x ∈ (mApply ds cs).getD [], x.ok := by
  cases h : mApply ds cs with
  | none => exact ⟨Nat.zero_le _, fun x hx => by cases hx⟩
  | some es =>
    unfold mApply at h
    split at h
    · rename_i hv
      simp at hv
      have := runCh_ok cs h hv.1 hd hc
      exact ⟨vEnum_len this.1, this.2⟩
    · cases h

theorem stepOf_v (c : Ch) (w : World) {v : Bool} (hv : okC c = v) :
    Calls Try.prog 105 #[.agg #[.int .i64 c.kind, .string c.name, .int .i64 c.old, .int .i64 c.new]] w fun e w' => (∃ x, e = .returned (.tuple #[x, .bool v]) ∧ (v = true → x = stepV c)) ∧ Below w.heap.size w w' := by
  subst hv
  obtain ⟨kd, nm, ol, nw⟩ := c
  by_cases h0 : kd = 0
  · subst h0
    refine (stepOf_add nm ol nw w).mono ?_
    rintro e w' ⟨rfl, hb⟩
    exact ⟨⟨_, by simp [okC]; rfl, fun _ => by simp [stepV]⟩, hb⟩
  · by_cases h1 : kd = 1
    · subst h1
      refine (stepOf_drop nm ol nw w).mono ?_
      rintro e w' ⟨rfl, hb⟩
      exact ⟨⟨_, by simp [okC]; rfl, fun _ => by simp [stepV]⟩, hb⟩
    · by_cases h2 : kd = 2
      · subst h2
        refine (stepOf_turn nm ol nw w).mono ?_
        rintro e w' ⟨rfl, hb⟩
        exact ⟨⟨_, by simp [okC]; rfl, fun _ => by simp [stepV]⟩, hb⟩
      · refine (stepOf_other kd nm ol nw w h0 h1 h2).mono ?_
        rintro e w' ⟨rfl, hb⟩
        exact ⟨⟨.nilIface, by simp [okC, h0, h1, h2], fun h => by simp [okC, h0, h1, h2] at h⟩, hb⟩
theorem after_v (ds : List D) (c : Ch) (hok : okC c = true) (hc : c.ok) (A : Option Addr) (n cp : Nat) (w : World) (hr : SD w w.heap.size A n cp ds) (hn : n ≤ 100) {q : Option (List D)} (hq : mAfter ds c = q) :
    Calls Try.prog 106 #[.agg #[.slice A n cp], stepV c] w (EnumP q w) := by
  subst hq
  obtain ⟨kd, nm, ol, nw⟩ := c
  have hd : D.ok ⟨nm, nw⟩ := ⟨hc.1, hc.2.2.2⟩
  by_cases h0 : kd = 0
  · subst h0
    have e1 : stepV ⟨0, nm, ol, nw⟩ = .iface 185 (.agg #[.string nm, .int .i64 nw]) := by simp [stepV]
    rw [e1]
    exact after_add ds ⟨nm, nw⟩ A n cp w hr hd (by simp [mAfter])
  · by_cases h1 : kd = 1
    · subst h1
      have e1 : stepV ⟨1, nm, ol, nw⟩ = .iface 186 (.agg #[.string nm, .int .i64 ol]) := by simp [stepV]
      rw [e1]
      exact after_drop ds ⟨nm, ol⟩ A n cp w hr hn rfl (by simp [mAfter])
    · have e1 : stepV ⟨kd, nm, ol, nw⟩ = .iface 188 (.agg #[.string nm, .int .i64 ol, .int .i64 nw]) := by simp [stepV, h0, h1]
      rw [e1]
      exact after_turn ds ⟨nm, ol⟩ nw A n cp w hr hd hn rfl (by simp [mAfter, h0, h1])

/-! ### the same, by the name alone -/
theorem fidx_isD {ds : List D} (hn : NoDup ds) {nm : ByteArray} {ol : Int} {k : Nat} (hk : k < ds.length) (hx : fidx (isNm nm) ds = k) :
    fidx (isD ⟨nm, ol⟩) ds = if ds[k].val = ol then (k : Int) else -1 := by
  rcases fidx_cases (isNm nm) ds with ⟨h, _⟩ | ⟨j, hj, h, hp, _⟩
  · omega
  · obtain rfl : j = k := by omega
    have hnm : ds[j].name = nm := isNm_iff.1 hp
    rcases fidx_cases (isD ⟨nm, ol⟩) ds with ⟨h2, hno⟩ | ⟨i, hi, h2, hp2, _⟩
    · rw [h2, if_neg]
      intro e
      have := hno j hj hj
      unfold isD at this
      rw [hnm, e] at this
      simp at this
    · unfold isD at hp2
      simp only [Bool.and_eq_true, beq_iff_eq] at hp2
      have hin : ds[i].name = nm := isNm_iff.1 (by unfold isNm; rw [← hp2.1]; simp)
      obtain rfl := nodup_inj hn hi hj (by rw [hin, hnm])
      rw [h2, if_pos hp2.2.symm]
theorem fidx_isD_no {ds : List D} {nm : ByteArray} {ol : Int} (hx : fidx (isNm nm) ds < 0) : fidx (isD ⟨nm, ol⟩) ds < 0 := by
  rcases fidx_cases (isD ⟨nm, ol⟩) ds with ⟨h2, _⟩ | ⟨i, hi, h2, hp2, _⟩
  · omega
  · rcases fidx_cases (isNm nm) ds with ⟨h, hno⟩ | ⟨j, hj, h, hp, _⟩
    · have := hno i hi hi
      unfold isD at hp2
      simp only [Bool.and_eq_true, beq_iff_eq] at hp2
      unfold isNm at this
      rw [← hp2.1] at this
      simp at this
    · omega
theorem add_dup {ds : List D} {nm : ByteArray} {vl : Int} {k : Nat} (hk : k < ds.length) (hx : fidx (isNm nm) ds = k) : vEnum (ds ++ [⟨nm, vl⟩]) = false := by
  rcases fidx_cases (isNm nm) ds with ⟨h, _⟩ | ⟨j, hj, h, hp, _⟩
  · omega
  · obtain rfl : j = k := by omega
    have hnm : ds[j].name = nm := isNm_iff.1 hp
    rw [Bool.eq_false_iff]
    intro hv
    have h2 := ((vEnum_iff _).1 hv).2.2
    have := (List.pairwise_append.1 h2).2.2 ds[j] (List.getElem_mem hj) ⟨nm, vl⟩ (by simp)
    exact this hnm
end Go.Proofs.Ytkholjcmaebaaaa
