/-
Plain facts on changes, as the laws of DiffEnums, ApplyChanges and TurnChanges ask for them. No program in sight.
-/
import Derived.Test.YtkholjcmaebaaaaLPa
import Derived.Test.YtkholjcmaebaaaaApplyP
import Derived.Test.YtkholjcmaebaaaaDiffM
import Derived.Test.YtkholjcmaebaaaaTurnP
namespace Go.Proofs.Ytkholjcmaebaaaa
set_option linter.unusedVariables false
set_option maxRecDepth 100000

/-! ### what one change does, told by what is in the list -/
def remC (c : Ch) (x : D) : Prop := (c.kind = 1 ∨ c.kind = 2) ∧ x = ⟨c.name, c.old⟩
def addD (c : Ch) (x : D) : Prop := (c.kind = 0 ∨ c.kind = 2) ∧ x = ⟨c.name, c.new⟩
def fits (ds : List D) (c : Ch) : Prop := (c.kind = 0 ∧ ∀ d ∈ ds, d.name ≠ c.name) ∨ ((c.kind = 1 ∨ c.kind = 2) ∧ (⟨c.name, c.old⟩ : D) ∈ ds)

theorem isD_at {ds : List D} {e : D} (h : e ∈ ds) : ∃ k, ∃ hk : k < ds.length, fidx (isD e) ds = (k : Int) ∧ ds[k] = e := by
  rcases fidx_cases (isD e) ds with ⟨_, hn⟩ | ⟨k, hk, h1, hp, _⟩
  · obtain ⟨i, hi, he⟩ := List.mem_iff_getElem.1 h
    have := hn i hi hi
    rw [isD_iff.2 he] at this; cases this
  · exact ⟨k, hk, h1, isD_iff.1 hp⟩
theorem isD_in {ds : List D} {e : D} (h : ¬ fidx (isD e) ds < 0) : e ∈ ds := by
  rcases fidx_cases (isD e) ds with ⟨h1, _⟩ | ⟨k, hk, h1, hp, _⟩
  · omega
  · rw [← isD_iff.1 hp]; exact List.getElem_mem hk
theorem name_in {ds : List D} (hn : NoDup ds) {x y : D} (hx : x ∈ ds) (hy : y ∈ ds) (e : x.name = y.name) : x = y := by
  obtain ⟨i, hi, rfl⟩ := List.mem_iff_getElem.1 hx
  obtain ⟨j, hj, rfl⟩ := List.mem_iff_getElem.1 hy
  have := nodup_inj hn hi hj e
  subst this; rfl
theorem rep_nil (ds : List D) (k : Nat) : rep ds k [] = ers ds k := rfl
theorem set_iff {ds : List D} (hn : NoDup ds) {k : Nat} (hk : k < ds.length) {d : D} (hd : d.name = ds[k].name) (x : D) : x ∈ ds.set k d ↔ (x ∈ ds ∧ x ≠ ds[k]) ∨ x = d := by
  constructor
  · intro h
    obtain ⟨i, hi, rfl⟩ := List.mem_iff_getElem.1 h
    rw [List.getElem_set]
    split
    · exact .inr rfl
    · rename_i hne
      have hi2 : i < ds.length := by simpa using hi
      refine .inl ⟨List.getElem_mem hi2, fun e => hne ?_⟩
      exact (nodup_inj hn hi2 hk (by rw [e])).symm
  · rintro (⟨h, hne⟩ | rfl)
    · obtain ⟨i, hi, rfl⟩ := List.mem_iff_getElem.1 h
      have : k ≠ i := fun e => hne (by subst e; rfl)
      exact List.mem_iff_getElem.2 ⟨i, by simpa using hi, by rw [List.getElem_set_ne this]⟩
    · exact List.mem_iff_getElem.2 ⟨k, by simpa using hk, by simp⟩
theorem set_nodup {ds : List D} (hn : NoDup ds) {k : Nat} (hk : k < ds.length) {d : D} (hd : d.name = ds[k].name) : NoDup (ds.set k d) := by
  rw [nodup_map] at *
  have : (ds.set k d).map D.name = ds.map D.name := by
    rw [List.map_set, hd]
    have e : ds[k].name = (ds.map D.name)[k]'(by simpa using hk) := by simp
    rw [e, List.set_getElem_self]
  rw [this]; exact hn
theorem app_nodup {ds : List D} (hn : NoDup ds) {d : D} (hd : ∀ x ∈ ds, x.name ≠ d.name) : NoDup (ds ++ [d]) := by
  unfold NoDup
  rw [List.pairwise_append]
  exact ⟨hn, List.pairwise_singleton _ _, fun x hx y hy => by simp at hy; subst hy; exact hd x hx⟩

theorem okC_cases {c : Ch} (h : okC c = true) : (c.kind = 0 ∧ c.old = 0) ∨ (c.kind = 1 ∧ c.new = 0) ∨ c.kind = 2 := by
  unfold okC at h
  split at h
  · rename_i h0; left; exact ⟨h0, (by simpa using h : (0 : Int) = c.old).symm⟩
  · split at h
    · rename_i h1; right; left; exact ⟨h1, (by simpa using h : (0 : Int) = c.new).symm⟩
    · right; right; simpa using h
theorem okC_of {c : Ch} (h : (c.kind = 0 ∧ c.old = 0) ∨ (c.kind = 1 ∧ c.new = 0) ∨ c.kind = 2) : okC c = true := by
  unfold okC
  rcases h with ⟨h, h'⟩ | ⟨h, h'⟩ | h
  · simp [h, h']
  · simp [h, h']
  · simp [h]

theorem rem_fact {ds : List D} (hn : NoDup ds) {e : D} (he : e ∈ ds) (x : D) : (x ∈ ds ∧ x.name ≠ e.name) ↔ (x ∈ ds ∧ x ≠ e) := by
  constructor
  · intro ⟨h1, h2⟩; exact ⟨h1, fun h => h2 (by rw [h])⟩
  · intro ⟨h1, h2⟩; exact ⟨h1, fun h => h2 (name_in hn h1 he h)⟩

structure StepL (ds : List D) (c : Ch) (es : List D) : Prop where
  ok : okC c = true
  fit : fits ds c
  ve : vEnum es = true
  mem : ∀ x, x ∈ es ↔ (x ∈ ds ∧ ¬ remC c x) ∨ addD c x
theorem step_law {ds es : List D} {c : Ch} (hv : vEnum ds = true) (h : mStep ds c = some es) : StepL ds c es := by
  have hn := vEnum_nodup hv
  unfold mStep at h
  split at h
  · rename_i hok
    rcases okC_cases hok with ⟨h0, h0'⟩ | ⟨h1, h1'⟩ | h2
    · have e : mAfter ds c = mAdd ds ⟨c.name, c.new⟩ := by unfold mAfter; rw [if_pos h0]
      rw [e] at h
      obtain ⟨rfl, hve⟩ := mAdd_some h
      have hnd := vEnum_nodup hve
      refine ⟨hok, .inl ⟨h0, fun d hd e => ?_⟩, hve, fun x => ?_⟩
      · unfold NoDup at hnd
        rw [List.pairwise_append] at hnd
        exact hnd.2.2 d hd ⟨c.name, c.new⟩ (by simp) e
      · have : ¬ remC c x := fun hr => by unfold remC at hr; omega
        rw [List.mem_append]; unfold addD; simp [this, h0]
    · have e : mAfter ds c = repO ds (fidx (isD ⟨c.name, c.old⟩) ds) [] := by unfold mAfter; rw [if_neg (by omega), if_pos h1]
      rw [e] at h
      by_cases hx : fidx (isD ⟨c.name, c.old⟩) ds < 0
      · rw [repO_no hx] at h; cases h
      · have hin := isD_in hx
        obtain ⟨k, hk, hxk, hke⟩ := isD_at hin
        rw [hxk, repO_yes, rep_nil] at h
        obtain ⟨rfl, hve⟩ := chkO_is h
        refine ⟨hok, .inr ⟨.inl h1, hin⟩, hve, fun x => ?_⟩
        rw [ers_iff hn hk, hke, rem_fact hn hin]
        have : ¬ addD c x := fun hr => by unfold addD at hr; omega
        unfold remC; simp [this, h1]
    · have e : mAfter ds c = repO ds (fidx (isD ⟨c.name, c.old⟩) ds) [⟨c.name, c.new⟩] := by unfold mAfter; rw [if_neg (by omega), if_neg (by omega)]
      rw [e] at h
      by_cases hx : fidx (isD ⟨c.name, c.old⟩) ds < 0
      · rw [repO_no hx] at h; cases h
      · have hin := isD_in hx
        obtain ⟨k, hk, hxk, hke⟩ := isD_at hin
        rw [hxk, repO_yes, ← rep_set ds k hk] at h
        obtain ⟨rfl, hve⟩ := chkO_is h
        refine ⟨hok, .inr ⟨.inr h2, hin⟩, hve, fun x => ?_⟩
        rw [set_iff hn hk (by rw [hke]), hke]
        unfold remC addD; simp [h2]
  · cases h
/-- A change that fits is possible where what it makes is known to be valid. -/
theorem step_can {ds : List D} {c : Ch} (hv : vEnum ds = true) (hok : okC c = true) (hf : fits ds c) {T : List D} (hT : vEnum T = true) (hm : ∀ x, x ∈ T ↔ (x ∈ ds ∧ ¬ remC c x) ∨ addD c x) :
    ∃ es, mStep ds c = some es ∧ vEnum es = true ∧ Same es T := by
  have hn := vEnum_nodup hv
  have key : ∀ L, NoDup L → mStep ds c = chkO L → (∀ x, x ∈ L ↔ (x ∈ ds ∧ ¬ remC c x) ∨ addD c x) → ∃ es, mStep ds c = some es ∧ vEnum es = true ∧ Same es T := by
    intro L hL he hmL
    have hs : Same L T := fun x => by rw [hmL, hm]
    have hvL := vEnum_same hT hL hs
    exact ⟨L, by rw [he, chkO_yes hvL], hvL, hs⟩
  have es1 : mStep ds c = mAfter ds c := by unfold mStep; rw [if_pos hok]
  rcases hf with ⟨h0, hno⟩ | ⟨h12, hin⟩
  · refine key (ds ++ [⟨c.name, c.new⟩]) (app_nodup hn hno) ?_ ?_
    · rw [es1]; unfold mAfter mAdd; rw [if_pos h0, if_pos hv]
    · intro x
      have : ¬ remC c x := fun hr => by unfold remC at hr; omega
      rw [List.mem_append]; unfold addD; simp [this, h0]
  · obtain ⟨k, hk, hxk, hke⟩ := isD_at hin
    rcases h12 with h1 | h2
    · refine key (ers ds k) (hn.sublist (ers_sub ds k)) ?_ ?_
      · rw [es1]; unfold mAfter; rw [if_neg (by omega), if_pos h1, hxk, repO_yes, rep_nil]
      · intro x
        rw [ers_iff hn hk, hke, rem_fact hn hin]
        have : ¬ addD c x := fun hr => by unfold addD at hr; omega
        unfold remC; simp [this, h1]
    · refine key (ds.set k ⟨c.name, c.new⟩) (set_nodup hn hk (by rw [hke])) ?_ ?_
      · rw [es1]; unfold mAfter; rw [if_neg (by omega), if_neg (by omega), hxk, repO_yes, ← rep_set ds k hk]
      · intro x
        rw [set_iff hn hk (by rw [hke]), hke]
        unfold remC addD; simp [h2]

/-! ### many changes -/
theorem runCh_app (xs ys : List Ch) : ∀ ds, runCh ds (xs ++ ys) = (runCh ds xs).bind fun es => runCh es ys := by
  induction xs with
  | nil => intro ds; simp [runCh]
  | cons c cs ih =>
    intro ds
    rw [List.cons_append, runCh, runCh]
    cases mStep ds c with
    | none => rfl
    | some es => exact ih es
theorem runCh_ve {cs : List Ch} : ∀ {ds es : List D}, vEnum ds = true → runCh ds cs = some es → vEnum es = true := by
  induction cs with
  | nil => intro ds es hv h; unfold runCh at h; cases h; exact hv
  | cons c cs ih =>
    intro ds es hv h
    unfold runCh at h
    split at h
    · cases h
    · rename_i e1 he
      exact ih (step_law hv he).ve h
theorem mApply_some {ds es : List D} {cs : List Ch} (h : mApply ds cs = some es) : vEnum ds = true ∧ cs.length ≤ 30 ∧ runCh ds cs = some es ∧ vEnum es = true := by
  unfold mApply at h
  split at h
  · rename_i hv
    rw [Bool.and_eq_true, decide_eq_true_iff] at hv
    exact ⟨hv.1, hv.2, h, runCh_ve hv.1 h⟩
  · cases h

/-! ### turned round -/
theorem turnKd_two (k : Int) : turnKd (turnKd k) = k := by unfold turnKd; split <;> (try split) <;> (try split) <;> omega
theorem revC_two (c : Ch) : revC (revC c) = c := by unfold revC; simp [turnKd_two]
theorem mTurn_two (ks : List Ch) : mTurn (mTurn ks) = ks := by
  unfold mTurn
  rw [← List.map_reverse, List.reverse_reverse, List.map_map]
  have : revC ∘ revC = id := by funext c; exact revC_two c
  rw [this, List.map_id]
theorem mTurn_cons (c : Ch) (cs : List Ch) : mTurn (c :: cs) = mTurn cs ++ [revC c] := by unfold mTurn; simp
theorem back_step {ds es b : List D} {c : Ch} (hv : vEnum ds = true) (h : StepL ds c es) (hb : vEnum b = true) (hs : Same b es) : ∃ bs, mStep b (revC c) = some bs ∧ vEnum bs = true ∧ Same bs ds := by
  have hn := vEnum_nodup hv
  have hm := h.mem
  rcases h.fit with ⟨h0, hno⟩ | ⟨h12, hin⟩
  · have ho : c.old = 0 := by rcases okC_cases h.ok with ⟨_, h⟩ | ⟨h, _⟩ | h <;> omega
    have hk : (revC c).kind = 1 := by unfold revC turnKd; simp [h0]
    refine step_can hb (okC_of (.inr (.inl ⟨hk, ho⟩))) (.inr ⟨.inl hk, ?_⟩) hv fun x => ?_
    · rw [hs, hm]; right; exact ⟨.inl h0, rfl⟩
    · rw [hs, hm]
      have e1 : remC (revC c) x ↔ x = ⟨c.name, c.new⟩ := by unfold remC; simp [hk]; exact Iff.rfl
      have e2 : ¬ addD (revC c) x := by unfold addD; rw [hk]; intro hh; omega
      have e3 : addD c x ↔ x = ⟨c.name, c.new⟩ := by unfold addD; simp [h0]
      have e4 : ¬ remC c x := by unfold remC; intro hh; omega
      rw [e1, e3]
      constructor
      · intro hx
        exact .inl ⟨.inl ⟨hx, e4⟩, fun e => hno x hx (by rw [e])⟩
      · rintro (⟨(⟨hx, _⟩ | hx), hne⟩ | hx)
        · exact hx
        · exact absurd hx hne
        · exact absurd hx e2
  · rcases h12 with h1 | h2
    · have ho : c.new = 0 := by rcases okC_cases h.ok with ⟨h, _⟩ | ⟨_, h⟩ | h <;> omega
      have hk : (revC c).kind = 0 := by unfold revC turnKd; simp [h1]
      have e1 : ∀ x, ¬ remC (revC c) x := fun x => by unfold remC; rw [hk]; intro hh; omega
      have e2 : ∀ x, addD (revC c) x ↔ x = ⟨c.name, c.old⟩ := fun x => by unfold addD; simp [hk]; exact Iff.rfl
      have e3 : ∀ x, ¬ addD c x := fun x => by unfold addD; rw [h1]; intro hh; omega
      have e4 : ∀ x, remC c x ↔ x = ⟨c.name, c.old⟩ := fun x => by unfold remC; simp [h1]
      refine step_can hb (okC_of (.inl ⟨hk, ho⟩)) (.inl ⟨hk, fun d hd e => ?_⟩) hv fun x => ?_
      · rcases (hm d).1 ((hs d).1 hd) with ⟨hd2, hr⟩ | ha
        · rw [e4] at hr
          exact hr (name_in hn hd2 hin e)
        · exact e3 d ha
      · rw [hs, hm, e2, e4]
        constructor
        · intro hx
          by_cases e : x = ⟨c.name, c.old⟩
          · exact .inr e
          · exact .inl ⟨.inl ⟨hx, e⟩, e1 x⟩
        · rintro (⟨(⟨hx, _⟩ | hx), _⟩ | rfl)
          · exact hx
          · exact absurd hx (e3 x)
          · exact hin
    · have hk : (revC c).kind = 2 := by unfold revC turnKd; simp [h2]
      have e1 : ∀ x, remC (revC c) x ↔ x = ⟨c.name, c.new⟩ := fun x => by unfold remC; simp [hk]; exact Iff.rfl
      have e2 : ∀ x, addD (revC c) x ↔ x = ⟨c.name, c.old⟩ := fun x => by unfold addD; simp [hk]; exact Iff.rfl
      have e3 : ∀ x, addD c x ↔ x = ⟨c.name, c.new⟩ := fun x => by unfold addD; simp [h2]
      have e4 : ∀ x, remC c x ↔ x = ⟨c.name, c.old⟩ := fun x => by unfold remC; simp [h2]
      refine step_can hb (okC_of (.inr (.inr hk))) (.inr ⟨.inr hk, ?_⟩) hv fun x => ?_
      · rw [hs, hm, e3]; right; rfl
      · rw [hs, hm, e1, e2, e3, e4]
        constructor
        · intro hx
          by_cases e : x = ⟨c.name, c.old⟩
          · exact .inr e
          · refine .inl ⟨.inl ⟨hx, e⟩, fun e' => e ?_⟩
            exact name_in hn hx hin (by rw [e'])
        · rintro (⟨(⟨hx, _⟩ | hx), hne⟩ | rfl)
          · exact hx
          · exact absurd hx hne
          · exact hin
theorem runCh_back (cs : List Ch) : ∀ {ds es b : List D}, vEnum ds = true → runCh ds cs = some es → vEnum b = true → Same b es → ∃ bs, runCh b (mTurn cs) = some bs ∧ vEnum bs = true ∧ Same bs ds := by
  induction cs with
  | nil =>
    intro ds es b hv h hb hs
    unfold runCh at h; cases h
    exact ⟨b, rfl, hb, hs⟩
  | cons c cs ih =>
    intro ds es b hv h hb hs
    unfold runCh at h
    split at h
    · cases h
    · rename_i e1 he
      have hl := step_law hv he
      obtain ⟨b1, hr, hvb, hsb⟩ := ih hl.ve h hb hs
      obtain ⟨bs, hr2, h2, h3⟩ := back_step hv hl hvb hsb
      refine ⟨bs, ?_, h2, h3⟩
      rw [mTurn_cons, runCh_app, hr]
      show runCh b1 [revC c] = some bs
      rw [runCh, hr2]; rfl
theorem apply_back {ds es : List D} {cs : List Ch} (h : mApply ds cs = some es) : ∃ bs, mApply es (mTurn cs) = some bs ∧ mSame bs ds = true := by
  obtain ⟨hv, hl, hr, hve⟩ := mApply_some h
  obtain ⟨bs, h1, h2, h3⟩ := runCh_back cs hv hr hve (fun d => Iff.rfl)
  exact ⟨bs, by rw [mApply_yes hve (by rw [mTurn_len]; exact hl)]; exact h1, mSame_iff.2 ⟨h2, hv, h3⟩⟩
/-! ### one by one -/
theorem apply_one {ds es : List D} {cs : List Ch} (h : mApply ds cs = some es) (k : Nat) : ∃ ms, mApply ds (cs.take k) = some ms ∧ mApply ms (cs.drop k) = some es := by
  obtain ⟨hv, hl, hr, hve⟩ := mApply_some h
  have := runCh_app (cs.take k) (cs.drop k) ds
  rw [List.take_append_drop, hr] at this
  cases hm : runCh ds (cs.take k) with
  | none => rw [hm] at this; cases this
  | some ms =>
    rw [hm] at this
    have hvm := runCh_ve hv hm
    exact ⟨ms, by rw [mApply_yes hv (by simp; omega)]; exact hm, by rw [mApply_yes hvm (by simp; omega)]; exact this.symm⟩

/-! ### from one enumeration to another one -/
theorem drops_fm (a b : List D) : a.flatMap (dropF b) = (a.filter fun d => (defOf b d.name).isNone).map dropC := by
  induction a with
  | nil => rfl
  | cons d r ih =>
    rw [List.flatMap_cons, ih, List.filter_cons]
    unfold dropF
    cases defOf b d.name <;> simp
theorem adds_fm (a b : List D) : b.flatMap (addF a) = (b.filter fun d => (defOf a d.name).isNone).map addC := by
  induction b with
  | nil => rfl
  | cons d r ih =>
    rw [List.flatMap_cons, ih, List.filter_cons]
    unfold addF
    cases defOf a d.name <;> simp
/-- The change of a name whose value is another one. -/
def DiffTurn (p : D × D) : Ch := turnC p.1 p.2
def turnP (b : List D) (d : D) : Option (D × D) := match defOf b d.name with | none => none | some e => if e.val = d.val then none else some (d, e)
theorem turns_fm (a b : List D) : a.flatMap (turnF b) = (a.filterMap (turnP b)).map fun p => DiffTurn p := by
  induction a with
  | nil => rfl
  | cons d r ih =>
    rw [List.flatMap_cons, ih, List.filterMap_cons]
    unfold turnF turnP
    cases defOf b d.name with
    | none => simp
    | some e => by_cases h : e.val = d.val <;> simp [h, DiffTurn]
theorem run_drops (L : List D) : ∀ {ds : List D}, vEnum ds = true → NoDup L → (∀ d ∈ L, d ∈ ds) → ∃ es, runCh ds (L.map dropC) = some es ∧ vEnum es = true ∧ ∀ x, x ∈ es ↔ x ∈ ds ∧ x ∉ L := by
  induction L with
  | nil => intro ds hv _ _; exact ⟨ds, rfl, hv, fun x => by simp⟩
  | cons d L ih =>
    intro ds hv hn hin
    have hd := hin d (by simp)
    have hnd := vEnum_nodup hv
    obtain ⟨k, hk, _, hke⟩ := isD_at hd
    have hrm : ∀ x, remC (dropC d) x ↔ x = d := fun x => by unfold remC dropC; simp
    have hra : ∀ x, ¬ addD (dropC d) x := fun x => by unfold addD dropC; simp
    have hL := List.pairwise_cons.1 hn
    obtain ⟨e1, h1, h2, h3⟩ := step_can (c := dropC d) hv (okC_of (.inr (.inl ⟨rfl, rfl⟩))) (.inr ⟨.inl rfl, hd⟩) (vEnum_ers hv k) (fun x => by rw [ers_iff hnd hk, hke, rem_fact hnd hd, hrm]; simp [hra])
    have hm1 : ∀ x, x ∈ e1 ↔ x ∈ ds ∧ x ≠ d := fun x => by rw [h3 x, ers_iff hnd hk, hke, rem_fact hnd hd]
    obtain ⟨es, h4, h5, h6⟩ := ih h2 hL.2 (fun x hx => (hm1 x).2 ⟨hin x (by simp [hx]), fun e => hL.1 x hx (by rw [e])⟩)
    refine ⟨es, by rw [List.map_cons, runCh, h1]; exact h4, h5, fun x => ?_⟩
    rw [h6, hm1]; simp [and_assoc]
theorem run_turns (L : List (D × D)) : ∀ {ds : List D}, vEnum ds = true → (L.map Prod.fst).Pairwise (fun a b => a.name ≠ b.name) → (∀ p ∈ L, p.1 ∈ ds ∧ p.1.name = p.2.name ∧ okD p.2) →
    ∃ es, runCh ds (L.map fun p => DiffTurn p) = some es ∧ vEnum es = true ∧ ∀ x, x ∈ es ↔ (x ∈ ds ∧ ∀ p ∈ L, x ≠ p.1) ∨ ∃ p ∈ L, x = p.2 := by
  induction L with
  | nil => intro ds hv _ _; exact ⟨ds, rfl, hv, fun x => by simp⟩
  | cons p L ih =>
    intro ds hv hn hin
    obtain ⟨d, e⟩ := p
    obtain ⟨hd, hne, hoe⟩ := hin (d, e) (by simp)
    simp only at hd hne hoe
    have hnd := vEnum_nodup hv
    obtain ⟨k, hk, _, hke⟩ := isD_at hd
    rw [List.map_cons] at hn
    have hL := List.pairwise_cons.1 hn
    have hrm : ∀ x, remC (DiffTurn (d, e)) x ↔ x = d := fun x => by unfold remC DiffTurn; simp [Go.Proofs.Ytkholjcmaebaaaa.turnC]
    have hra : ∀ x, addD (DiffTurn (d, e)) x ↔ x = e := fun x => by unfold addD DiffTurn; simp [Go.Proofs.Ytkholjcmaebaaaa.turnC, hne]
    have hnn : e.name = ds[k].name := by rw [hke]; exact hne.symm
    have hT : vEnum (ds.set k e) = true := by
      obtain ⟨q1, q2, _⟩ := (vEnum_iff ds).1 hv
      refine (vEnum_iff _).2 ⟨by simpa using q1, fun x hx => ?_, set_nodup hnd hk hnn⟩
      rcases (set_iff hnd hk hnn x).1 hx with ⟨h, _⟩ | rfl
      · exact q2 x h
      · exact hoe
    obtain ⟨e1, h1, h2, h3⟩ := step_can (c := DiffTurn (d, e)) hv (okC_of (.inr (.inr rfl))) (.inr ⟨.inr rfl, hd⟩) hT (fun x => by rw [set_iff hnd hk hnn, hke, hrm, hra])
    have hm1 : ∀ x, x ∈ e1 ↔ (x ∈ ds ∧ x ≠ d) ∨ x = e := fun x => by rw [h3 x, set_iff hnd hk hnn, hke]
    have hLe : ∀ p ∈ L, p.1 ≠ d ∧ p.1 ≠ e := fun p hp => by
      have := hL.1 p.1 (List.mem_map_of_mem hp)
      exact ⟨fun h => this (by rw [h]), fun h => this (by rw [h]; exact hne)⟩
    obtain ⟨es, h4, h5, h6⟩ := ih h2 hL.2 (fun p hp => ⟨(hm1 _).2 (.inl ⟨(hin p (by simp [hp])).1, (hLe p hp).1⟩), (hin p (by simp [hp])).2⟩)
    refine ⟨es, by rw [List.map_cons, runCh, h1]; exact h4, h5, fun x => ?_⟩
    rw [h6, hm1]
    constructor
    · rintro (⟨(⟨ha, hb⟩ | rfl), hc⟩ | ⟨p, hp, rfl⟩)
      · exact .inl ⟨ha, fun p hp => by rcases List.mem_cons.1 hp with rfl | hp; exact hb; exact hc p hp⟩
      · exact .inr ⟨(d, x), by simp, rfl⟩
      · exact .inr ⟨p, by simp [hp], rfl⟩
    · rintro (⟨ha, hb⟩ | ⟨p, hp, rfl⟩)
      · exact .inl ⟨.inl ⟨ha, hb (d, e) (by simp)⟩, fun p hp => hb p (by simp [hp])⟩
      · rcases List.mem_cons.1 hp with rfl | hp
        · exact .inl ⟨.inr rfl, fun p hp h => (hLe p hp).2 h.symm⟩
        · exact .inr ⟨p, hp, rfl⟩
theorem run_adds (L : List D) : ∀ {ds : List D}, vEnum (ds ++ L) = true → runCh ds (L.map addC) = some (ds ++ L) := by
  induction L with
  | nil => intro ds _; simp [runCh]
  | cons d L ih =>
    intro ds hv
    have e : ds ++ d :: L = (ds ++ [d]) ++ L := by simp
    rw [e] at hv ⊢
    have hv1 : vEnum (ds ++ [d]) = true := vEnum_sub hv (List.sublist_append_left _ _)
    have hv0 : vEnum ds = true := vEnum_sub hv1 (List.sublist_append_left _ _)
    have hs : mStep ds (addC d) = some (ds ++ [d]) := by
      unfold mStep
      rw [if_pos (okC_of (.inl ⟨rfl, rfl⟩))]
      unfold mAfter mAdd
      rw [if_pos (show (addC d).kind = 0 from rfl), if_pos hv0]
      exact chkO_yes hv1
    rw [List.map_cons, runCh, hs]
    exact ih hv
theorem diff_len (a b : List D) : (mDiff a b).length ≤ a.length + b.length := by
  have h : ∀ l : List D, (l.flatMap (dropF b)).length + (l.flatMap (turnF b)).length ≤ l.length := by
    intro l
    induction l with
    | nil => simp
    | cons d r ih =>
      rw [List.flatMap_cons, List.flatMap_cons, List.length_append, List.length_append, List.length_cons]
      have : (dropF b d).length + (turnF b d).length ≤ 1 := by
        unfold dropF turnF
        cases defOf b d.name with
        | none => simp
        | some e => simp; split <;> simp
      omega
  unfold mDiff
  rw [List.length_append, List.length_append]
  have := h a
  have := fm_le (addF a) (addF_le a) b
  omega
theorem diff_law {a b : List D} (ha : vEnum a = true) (hb : vEnum b = true) : ∃ es, mApply a (mDiff a b) = some es ∧ mSame es b = true := by
  have na := vEnum_nodup ha
  have nb := vEnum_nodup hb
  obtain ⟨_, okb, _⟩ := (vEnum_iff b).1 hb
  have hlen : (mDiff a b).length ≤ 30 := by have := diff_len a b; have := vEnum_len ha; have := vEnum_len hb; omega
  obtain ⟨e1, r1, v1, m1⟩ := run_drops (a.filter fun d => (defOf b d.name).isNone) ha (na.sublist List.filter_sublist) (fun d hd => (List.mem_filter.1 hd).1)
  have hm1 : ∀ x, x ∈ e1 ↔ x ∈ a ∧ defOf b x.name ≠ none := fun x => by
    rw [m1, List.mem_filter]
    constructor
    · rintro ⟨h1, h2⟩; exact ⟨h1, fun e => h2 ⟨h1, by rw [e]; rfl⟩⟩
    · rintro ⟨h1, h2⟩; exact ⟨h1, fun ⟨_, e⟩ => h2 (by simpa using e)⟩
  have hP : ∀ p, p ∈ a.filterMap (turnP b) ↔ p.1 ∈ a ∧ p.2 ∈ b ∧ p.2.name = p.1.name ∧ p.2.val ≠ p.1.val := fun p => by
    rw [List.mem_filterMap]
    constructor
    · rintro ⟨d, hd, h⟩
      unfold turnP at h
      cases hx : defOf b d.name with
      | none => rw [hx] at h; cases h
      | some e =>
        rw [hx] at h
        by_cases hv : e.val = d.val
        · simp [hv] at h
        · simp [hv] at h
          subst h
          obtain ⟨h1, h2⟩ := (defOf_iff nb).1 hx
          exact ⟨hd, h1, h2, hv⟩
    · rintro ⟨h1, h2, h3, h4⟩
      refine ⟨p.1, h1, ?_⟩
      unfold turnP
      rw [(defOf_iff nb).2 ⟨h2, h3⟩]
      simp [h4]
  have hpw : ((a.filterMap (turnP b)).map Prod.fst).Pairwise (fun x y => x.name ≠ y.name) := by
    have e : ∀ l : List D, ((l.filterMap (turnP b)).map Prod.fst).Sublist l := by
      intro l
      induction l with
      | nil => exact List.Sublist.refl _
      | cons d r ih =>
        rw [List.filterMap_cons]
        cases hx : turnP b d with
        | none => exact ih.cons _
        | some p =>
          have : p.1 = d := by
            unfold turnP at hx
            split at hx
            · cases hx
            · split at hx
              · cases hx
              · cases hx; rfl
          simp only [List.map_cons, this]
          exact ih.cons_cons _
    exact na.sublist (e a)
  obtain ⟨e2, r2, v2, m2⟩ := run_turns (a.filterMap (turnP b)) v1 hpw (fun p hp => by
    obtain ⟨h1, h2, h3, h4⟩ := (hP p).1 hp
    exact ⟨(hm1 _).2 ⟨h1, fun e => defOf_no.1 e p.2 h2 h3⟩, h3.symm, okb _ h2⟩)
  have hm2 : ∀ x, x ∈ e2 ↔ x ∈ b ∧ defOf a x.name ≠ none := fun x => by
    rw [m2]
    constructor
    · rintro (⟨h1, h2⟩ | ⟨p, hp, rfl⟩)
      · obtain ⟨h3, h4⟩ := (hm1 x).1 h1
        cases hx : defOf b x.name with
        | none => exact absurd hx h4
        | some e =>
          obtain ⟨q1, q2⟩ := (defOf_iff nb).1 hx
          have hv : e.val = x.val := by
            by_cases hv : e.val = x.val
            · exact hv
            · exact absurd rfl (h2 (x, e) ((hP _).2 ⟨h3, q1, q2, hv⟩))
          have : e = x := D_ext q2 hv
          subst this
          exact ⟨q1, fun h => defOf_no.1 h e h3 rfl⟩
      · obtain ⟨h1, h2, h3, _⟩ := (hP p).1 hp
        exact ⟨h2, fun h => defOf_no.1 h p.1 h1 h3.symm⟩
    · rintro ⟨h1, h2⟩
      cases hx : defOf a x.name with
      | none => exact absurd hx h2
      | some d =>
        obtain ⟨q1, q2⟩ := (defOf_iff na).1 hx
        by_cases hv : d.val = x.val
        · have : d = x := D_ext q2 hv
          subst this
          refine .inl ⟨(hm1 _).2 ⟨q1, fun h => defOf_no.1 h d h1 rfl⟩, fun p hp e => ?_⟩
          obtain ⟨_, g2, g3, g4⟩ := (hP p).1 hp
          have : p.2 = d := name_in nb g2 h1 (by rw [g3, e])
          exact g4 (by rw [this, e])
        · exact .inr ⟨(d, x), (hP _).2 ⟨q1, h1, q2.symm, fun e => hv e.symm⟩, rfl⟩
  have hm3 : ∀ x, x ∈ e2 ++ b.filter (fun d => (defOf a d.name).isNone) ↔ x ∈ b := fun x => by
    rw [List.mem_append, hm2, List.mem_filter]
    constructor
    · rintro (⟨h, _⟩ | ⟨h, _⟩) <;> exact h
    · intro h
      cases hx : defOf a x.name with
      | none => exact .inr ⟨h, rfl⟩
      | some d => exact .inl ⟨h, by simp⟩
  have hnd : NoDup (e2 ++ b.filter fun d => (defOf a d.name).isNone) := by
    unfold NoDup
    rw [List.pairwise_append]
    refine ⟨vEnum_nodup v2, nb.sublist List.filter_sublist, fun x hx y hy e => ?_⟩
    obtain ⟨h1, h2⟩ := (hm2 x).1 hx
    have h3 := (List.mem_filter.1 hy).2
    exact h2 (by rw [e]; simpa using h3)
  have v3 := vEnum_same hb hnd hm3
  refine ⟨_, ?_, mSame_iff.2 ⟨v3, hb, hm3⟩⟩
  rw [mApply_yes ha hlen]
  unfold mDiff
  rw [drops_fm, turns_fm, adds_fm, runCh_app, runCh_app, r1]
  show (runCh e1 _).bind _ = _
  rw [r2]
  exact run_adds _ v3
end Go.Proofs.Ytkholjcmaebaaaa
