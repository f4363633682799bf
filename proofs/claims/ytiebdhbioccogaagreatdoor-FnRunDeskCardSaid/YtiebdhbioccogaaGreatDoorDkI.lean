import Derived.Test.YtiebdhbioccogaaGreatDoorDkP
import Derived.Test.YtiebdhbioccogaaGreatDoorAsE
import Derived.Test.YtiebdhbioccogaaGreatDoorAlgJ
namespace Go.Proofs.YtiebdhbioccogaaGreatDoor
open Go.RowKit Go.Maps
set_option linter.unusedVariables false
set_option linter.unusedSimpArgs false
set_option maxRecDepth 100000

/-- What is answered, or the error that tells it. -/
def AnsE (t : ByteArray) (w : World) (e : Ending) (w' : World) : Prop :=
  ∃ (a : ByteArray) (er : Value), e = .returned (.tuple #[.string a, er]) ∧ ((er = .nilIface ∧ a = t) ∨ (a = ⟨#[]⟩ ∧ er = .iface 74 (.agg #[.string t]))) ∧ Below w.heap.size w w'
theorem dk_no {s : ByteArray} {l : List UInt8} (h : s ≠ ⟨l.toArray⟩) : (s.toList == l) = false := by
  rw [beq_eq_false_iff_ne]
  intro e
  apply h
  have h2 : s.data.toList = l := by rw [← e]; exact (ByteArray.toList_eq s).symm
  rw [← h2, mk_list]
set_option maxHeartbeats 4000000 in
theorem answerOf_nil (a : ByteArray) (w : World) :
    Calls Tryz.prog 16 #[.string a, .nilIface] w fun e w' => e = .returned (.string a) ∧ Below w.heap.size w w' := by
  obtain ⟨W, hW⟩ : ∃ W : World, W = w.alloc (.cells #[.string ⟨#[]⟩] 74) := ⟨_, rfl⟩
  have HB : Hid (Below w.heap.size w W) := Lib.hid (by rw [hW]; exact (Below.refl _ _).alloc (Nat.le_refl _) _)
  have HW := Lib.hid hW.symm
  clear hW
  go_enter Tryz.func16, Tryz.ntmps16
  go_wp2_with fail
  rw [HW.out]
  refine (as_nil _ _).mono ?_
  rintro e w1 ⟨rfl, rfl⟩
  go_wp2
  go_ret
  exact ⟨rfl, HB.out⟩
set_option maxHeartbeats 4000000 in
theorem answerOf_err (a t : ByteArray) (w : World) (hg : w.cell? ⟨0, 0, none⟩ = some (.iface 159 (.agg #[.pointer (some ⟨9, 40, none⟩)]))) :
    Calls Tryz.prog 16 #[.string a, .iface 74 (.agg #[.string t])] w fun e w' => e = .returned (.string t) ∧ Below w.heap.size w w' := by
  obtain ⟨W, hW⟩ : ∃ W : World, W = w.alloc (.cells #[.string ⟨#[]⟩] 74) := ⟨_, rfl⟩
  have hb : Below w.heap.size w W := by rw [hW]; exact (Below.refl _ _).alloc (Nat.le_refl _) _
  have HG := Lib.hid (keep1 hb hg)
  have HC : Hid (W.cell? ⟨w.heap.size, 0, none⟩ = some (.string ⟨#[]⟩)) := Lib.hid (by rw [hW]; simp [go_sem])
  have HFR : Hid (W.frozen? ⟨w.heap.size, 0, none⟩ = false) := Lib.hid (by rw [hW]; simp [go_sem])
  have HB := Lib.hid hb
  have HW := Lib.hid hW.symm
  have hlt : w.heap.size < W.heap.size := by rw [hW]; simp
  clear hW hb hg
  go_enter Tryz.func16, Tryz.ntmps16
  go_wp2_with fail
  rw [HW.out]
  refine (as_hit t ⟨w.heap.size, 0, none⟩ _ _ HG.out HC.out HFR.out).mono ?_
  rintro e w1 ⟨rfl, hw1⟩
  have hb1 : Below w.heap.size w w1 := by
    rw [hw1]
    refine Below.setCell ?_ (by simp) _
    exact (((HB.out.alloc HB.out.size _).alloc (by simp; omega) _).alloc (by simp; omega) _).alloc (by simp; omega) _
  have c0 : w1.cell? ⟨w.heap.size, 0, none⟩ = some (.string t) := by
    rw [hw1]
    refine World.cell?_setCell_same' _ _ _ ?_
    rw [World.cell?_alloc_lt _ _ _ (by simp; omega), World.cell?_alloc_lt _ _ _ (by simp; omega), World.cell?_alloc_lt _ _ _ (by simp; omega), World.cell?_alloc_lt _ _ _ (by simp; omega), HC.out]
    rfl
  have HB1 := Lib.hid hb1
  clear hw1 hb1
  go_wp2
  go_ret
  exact ⟨rfl, HB1.out⟩
set_option maxHeartbeats 16000000 in
theorem askMake_v (ds : List D) (b : Int) (x : ByteArray) (A : Option Addr) (m c : Nat) (w : World) (hr : SD w w.heap.size A m c ds) (hn : m ≤ 1048576) (hv : vFlag ds b = true) (hs : x.size ≤ 1048576) (hT : RT w w.heap.size) :
    Calls Tryz.prog 52 #[.agg #[.slice A m c, .int .i64 b], .string x] w (AnsE (mkS ds b x) w) := by
  have HF := Lib.hid (FB.start hr b)
  have HT : Hid (RT (w.alloc (.cells #[.slice A m c, .int .i64 b] 35)) (w.alloc (.cells #[.slice A m c, .int .i64 b] 35)).heap.size) := Lib.hid (hT.low ((Below.refl _ _).alloc (Nat.le_refl _) _))
  have HV := Lib.hid hv
  clear hr hT hv
  cases hx : numOf x with
  | none =>
    have HN := Lib.hid hx
    have HM : Hid (mkS ds b x = whatB) := Lib.hid (by unfold mkS; rw [dkNum_none hx])
    clear hx
    go_enter Tryz.func52, Tryz.ntmps52
    go_wp2_with fail
    generalize (w.alloc (.cells #[.slice A m c, .int .i64 b] 35)) = w0 at *
    refine (implRdN_none x _ hs HT.out HN.out).mono ?_
    rintro e w1 ⟨rfl, hb⟩
    have HB1 := Lib.hid (HF.out.after hb)
    clear hb
    go_wp2
    go_ret2
    exact ⟨⟨#[]⟩, .iface 74 (.agg #[.string whatB]), rfl, .inr ⟨rfl, by rw [HM.out]⟩, HB1.out⟩

  | some v =>
    have HN := Lib.hid hx
    by_cases hlo : v < -4096
    · have HM : Hid (mkS ds b x = whatB) := Lib.hid (by unfold mkS dkNum; rw [hx]; simp only; rw [if_neg (by unfold inV; rw [decide_eq_false (show ¬ -4096 ≤ v by omega), Bool.false_and]; decide)])
      clear hx
      go_enter Tryz.func52, Tryz.ntmps52
      go_wp2_with fail
      generalize (w.alloc (.cells #[.slice A m c, .int .i64 b] 35)) = w0 at *
      refine (implRdN_some x _ hs HT.out HN.out).mono ?_
      rintro e w1 ⟨rfl, hb⟩
      have HB1 := Lib.hid (HF.out.after hb)
      clear hb
      go_wp2
      go_ret2
      exact ⟨⟨#[]⟩, .iface 74 (.agg #[.string whatB]), rfl, .inr ⟨rfl, by rw [HM.out]⟩, HB1.out⟩

    by_cases hhi : 4095 < v
    · have HM : Hid (mkS ds b x = whatB) := Lib.hid (by unfold mkS dkNum; rw [hx]; simp only; rw [if_neg (by unfold inV; rw [decide_eq_false (show ¬ v ≤ 4095 by omega), Bool.and_false]; decide)])
      clear hx
      go_enter Tryz.func52, Tryz.ntmps52
      go_wp2_with fail
      generalize (w.alloc (.cells #[.slice A m c, .int .i64 b] 35)) = w0 at *
      refine (implRdN_some x _ hs HT.out HN.out).mono ?_
      rintro e w1 ⟨rfl, hb⟩
      have HB1 := Lib.hid (HF.out.after hb)
      clear hb
      go_wp2
      go_ret2
      exact ⟨⟨#[]⟩, .iface 74 (.agg #[.string whatB]), rfl, .inr ⟨rfl, by rw [HM.out]⟩, HB1.out⟩

    have hinv : inV v = true := by unfold inV; rw [decide_eq_true (show -4096 ≤ v by omega), decide_eq_true (show v ≤ 4095 by omega)]; rfl
    have HMK : Hid (mkS ds b x = mkT ds b v) := Lib.hid (by unfold mkS dkNum; rw [hx]; simp only; rw [if_pos hinv])
    have hmv : mValue ds b v = mMade ds b v := by unfold mValue; rw [HV.out, hinv]; rfl
    obtain ⟨y, hy⟩ : ∃ y, (mMade ds b v).1 = y := ⟨_, rfl⟩
    obtain ⟨h, hh⟩ : ∃ h, (mMade ds b v).2 = h := ⟨_, rfl⟩
    have HY : Hid ((mValue ds b v).1 = y) := Lib.hid (by rw [hmv, hy])
    have HH : Hid ((mValue ds b v).2 = h) := Lib.hid (by rw [hmv, hh])
    have HKT : Hid (mkT ds b v = if h = 0 then mShowV ds b y else if h = 1 then numberB ++ itoaB y else badB) := Lib.hid (by unfold mkT; rw [hy, hh])
    have HNR : Hid (h = 1 → -5000 ≤ y ∧ y ≤ 5000) := Lib.hid (fun e => by obtain ⟨k, e1, e2⟩ := mMade_rng (hh.trans e); rw [hy] at e1; omega)
    clear hx hmv hy hh hinv
    go_enter Tryz.func52, Tryz.ntmps52
    go_wp2_with fail
    generalize (w.alloc (.cells #[.slice A m c, .int .i64 b] 35)) = w0 at *
    refine (implRdN_some x _ hs HT.out HN.out).mono ?_
    rintro e w1 ⟨rfl, hb⟩
    have HF1 := Lib.hid (HF.out.call hb)
    have HT1 := Lib.hid (HT.out.low hb)
    have c0 := HF1.out.c0
    have c1 := HF1.out.c1
    clear hb HF HT
    go_wp2_with fail
    refine (implMake_v ds b v _ _ _ _ HF1.out.sd hn HY.out HH.out).mono ?_
    rintro e w2 ⟨rfl, hb⟩
    have HF2 := Lib.hid (HF1.out.call hb)
    have HT2 := Lib.hid (HT1.out.low hb)
    clear hb c0 c1 HF1 HT1
    have c0 := HF2.out.c0
    have c1 := HF2.out.c1
    by_cases h0 : h = 0
    · subst h0
      have HM : Hid (mkS ds b x = mShowV ds b y) := Lib.hid (by rw [HMK.out, HKT.out, if_pos rfl])
      obtain ⟨t, ht⟩ : ∃ t, mShowV ds b y = t := ⟨_, rfl⟩
      have HTT := Lib.hid ht
      rw [ht] at HM
      clear ht
      go_wp2_with fail
      refine (implShowV_v ds b y _ _ _ _ HF2.out.sd hn HT2.out HTT.out).mono ?_
      rintro e w3 ⟨rfl, hb⟩
      have HB3 := Lib.hid (HF2.out.after hb)
      clear hb c0 c1
      go_wp2
      go_ret2
      exact ⟨t, .nilIface, rfl, .inl ⟨rfl, HM.out.symm⟩, HB3.out⟩
    have h0e : (h == 0) = false := by rw [beq_eq_false_iff_ne]; exact h0
    by_cases h1 : h = 1
    · subst h1
      obtain ⟨y0, y1⟩ := HNR.out rfl
      have hzz := itoaB_size (v := y) (by omega) (by omega)
      have HM : Hid (mkS ds b x = numberB ++ itoaB y) := Lib.hid (by rw [HMK.out, HKT.out, if_neg (by decide), if_pos rfl])
      obtain ⟨t, ht⟩ : ∃ t, itoaB y = t := ⟨_, rfl⟩
      have HIT : Hid (∀ w, P10 w → Calls Tryz.prog 94 #[.int .i64 y] w fun e w' => e = .returned (.string t) ∧ Below w.heap.size w w') := Lib.hid (fun w h => by rw [← ht]; exact itoa_v _ (by omega) (by omega) w h)
      rw [ht] at HM hzz
      have hz2 : ((⟨#[110, 117, 109, 98, 101, 114, 32]⟩ : ByteArray) ++ t).size ≤ 20 := by rw [ByteArray.size_append]; show 7 + _ ≤ _; omega
      clear ht
      go_wp2_with fail
      refine (HIT.out _ HT2.out.p10).mono ?_
      rintro e w3 ⟨rfl, hb⟩
      have HB3 := Lib.hid (HF2.out.after hb)
      clear hb c0 c1
      go_wp2
      go_ret2
      exact ⟨_, .nilIface, rfl, .inl ⟨rfl, by rw [HM.out]; rfl⟩, HB3.out⟩
    have h1e : (h == 1) = false := by rw [beq_eq_false_iff_ne]; exact h1
    have HM : Hid (mkS ds b x = badB) := Lib.hid (by rw [HMK.out, HKT.out, if_neg h0, if_neg h1])
    have HB2 := Lib.hid HF2.out.bel
    clear c0 c1
    go_wp2
    go_ret2
    exact ⟨⟨#[]⟩, .iface 74 (.agg #[.string badB]), rfl, .inr ⟨rfl, by rw [HM.out]⟩, HB2.out⟩

set_option maxHeartbeats 16000000 in
theorem askOne_v (ds : List D) (b : Int) (v : ByteArray) (x : Int) (A : Option Addr) (m c : Nat) (w : World) (hr : SD w w.heap.size A m c ds) (hn : m ≤ 1048576) (hv : vFlag ds b = true) (hT : RT w w.heap.size) (hx0 : -5000 ≤ x) (hx1 : x ≤ 5000) :
    Calls Tryz.prog 55 #[.agg #[.slice A m c, .int .i64 b], .string v, .int .i64 x] w (AnsE (oneT ds b v x) w) := by
  have HF := Lib.hid (FB.start hr b)
  have HT : Hid (RT (w.alloc (.cells #[.slice A m c, .int .i64 b] 35)) (w.alloc (.cells #[.slice A m c, .int .i64 b] 35)).heap.size) := Lib.hid (hT.low ((Below.refl _ _).alloc (Nat.le_refl _) _))
  have HV := Lib.hid hv
  clear hr hT hv
  obtain ⟨w0, hw⟩ : ∃ W : World, W = (w.alloc (.cells #[.slice A m c, .int .i64 b] 35)) := ⟨_, rfl⟩
  have HW := Lib.hid hw.symm
  rw [← hw] at HF HT
  clear hw
  by_cases hvalueB : v = valueB
  · skip
    subst hvalueB
    have HM : Hid (oneT ds b valueB x = itoaB x) := Lib.hid (by unfold oneT; rw [if_pos rfl])
    obtain ⟨t, ht⟩ : ∃ t, itoaB x = t := ⟨_, rfl⟩
    have HIT : Hid (∀ w, P10 w → Calls Tryz.prog 94 #[.int .i64 x] w fun e w' => e = .returned (.string t) ∧ Below w.heap.size w w') := Lib.hid (fun w h => by rw [← ht]; exact itoa_v _ (by omega) (by omega) w h)
    rw [ht] at HM
    clear ht
    unfold valueB
    go_enter Tryz.func55, Tryz.ntmps55
    go_wp2_with fail
    rw [HW.out]
    refine (HIT.out _ HT.out.p10).mono ?_
    rintro e w3 ⟨rfl, hb⟩
    have HB3 := Lib.hid (HF.out.after hb)
    clear hb
    go_wp2
    go_ret2
    exact ⟨t, .nilIface, rfl, .inl ⟨rfl, HM.out.symm⟩, HB3.out⟩
  have nvalueB := dk_no (l := [118, 97, 108, 117, 101]) hvalueB
  by_cases hshowB : v = showB
  · skip
    subst hshowB
    have c0 := HF.out.c0
    have c1 := HF.out.c1
    have HM : Hid (oneT ds b showB x = mShowV ds b x) := Lib.hid (by unfold oneT; rw [if_neg (by decide), if_pos rfl])
    obtain ⟨t, ht⟩ : ∃ t, mShowV ds b x = t := ⟨_, rfl⟩
    have HTT := Lib.hid ht
    rw [ht] at HM
    clear ht
    unfold showB
    go_enter Tryz.func55, Tryz.ntmps55
    go_wp2_with fail
    rw [HW.out]
    refine (implShowV_v ds b x _ _ _ _ HF.out.sd hn HT.out HTT.out).mono ?_
    rintro e w3 ⟨rfl, hb⟩
    have HB3 := Lib.hid (HF.out.after hb)
    clear hb
    go_wp2
    go_ret2
    exact ⟨t, .nilIface, rfl, .inl ⟨rfl, HM.out.symm⟩, HB3.out⟩
  have nshowB := dk_no (l := [115, 104, 111, 119]) hshowB
  by_cases hshortB : v = shortB
  · skip
    subst hshortB
    have c0 := HF.out.c0
    have c1 := HF.out.c1
    have HM : Hid (oneT ds b shortB x = mShowSh ds b x) := Lib.hid (by unfold oneT; rw [if_neg (by decide), if_neg (by decide), if_pos rfl])
    obtain ⟨t, ht⟩ : ∃ t, mShowSh ds b x = t := ⟨_, rfl⟩
    have HTT := Lib.hid ht
    rw [ht] at HM
    clear ht
    unfold shortB
    go_enter Tryz.func55, Tryz.ntmps55
    go_wp2_with fail
    rw [HW.out]
    refine (implShowSh_v ds b x _ _ _ _ HF.out.sd hn HT.out HTT.out).mono ?_
    rintro e w3 ⟨rfl, hb⟩
    have HB3 := Lib.hid (HF.out.after hb)
    clear hb
    go_wp2
    go_ret2
    exact ⟨t, .nilIface, rfl, .inl ⟨rfl, HM.out.symm⟩, HB3.out⟩
  have nshortB := dk_no (l := [115, 104, 111, 114, 116]) hshortB
  by_cases hnotB : v = notB
  · skip
    subst hnotB
    have HM : Hid (oneT ds b notB x = mShowV ds b (mInv ds b x)) := Lib.hid (by unfold oneT; rw [if_neg (by decide), if_neg (by decide), if_neg (by decide), if_pos rfl])
    have c0 := HF.out.c0
    have c1 := HF.out.c1
    obtain ⟨y, hy⟩ : ∃ y, mInv ds b x = y := ⟨_, rfl⟩
    have HY := Lib.hid hy
    rw [hy] at HM
    obtain ⟨t, ht⟩ : ∃ t, mShowV ds b y = t := ⟨_, rfl⟩
    have HTT := Lib.hid ht
    rw [ht] at HM
    clear hy ht
    unfold notB
    go_enter Tryz.func55, Tryz.ntmps55
    go_wp2_with fail
    rw [HW.out]
    go_region_held3 (fun w' => w'.cell? ⟨w.heap.size, 0, none⟩ = some (.slice A m c) ∧ w'.cell? ⟨w.heap.size, 1, none⟩ = some (.int .i64 b))
      (first | go_keep | exact ⟨c0, c1⟩ | exact ⟨d0, d1⟩ | exact ⟨e0, e1⟩)
      (first
        | (go_at_call 98; refine (implInv_v ds b x _ _ _ _ (HF.out.sd.drewN 1) hn HY.out).mono ?_; rintro e w1 ⟨rfl, hb⟩; replace hb : Below w0.heap.size w0 w1 := (by first | exact hb | exact undrew hb); have HF1 := Lib.hid (HF.out.call hb); have HT1 := Lib.hid (HT.out.low hb); have d0 := HF1.out.c0; have d1 := HF1.out.c1; clear hb)
        | (go_at_call 93; refine (implShowV_v ds b y _ _ _ _ HF1.out.sd hn HT1.out HTT.out).mono ?_; rintro e w2 ⟨rfl, hb⟩; have HF2 := Lib.hid (HF1.out.call hb); have e0 := HF2.out.c0; have e1 := HF2.out.c1; clear hb))
    go_wp2
    go_ret2
    exact ⟨t, .nilIface, rfl, .inl ⟨rfl, HM.out.symm⟩, HF2.out.bel⟩
  have nnotB := dk_no (l := [110, 111, 116]) hnotB
  have HM : Hid (oneT ds b v x = whatB) := Lib.hid (by unfold oneT; rw [if_neg hvalueB, if_neg hshowB, if_neg hshortB, if_neg hnotB])
  clear hvalueB hshowB hshortB hnotB
  go_enter Tryz.func55, Tryz.ntmps55
  go_wp2
  rw [HW.out]
  go_ret2
  exact ⟨⟨#[]⟩, .iface 74 (.agg #[.string whatB]), rfl, .inr ⟨rfl, by rw [HM.out]⟩, HF.out.bel⟩

set_option maxHeartbeats 16000000 in
theorem askTwo_v (ds : List D) (b : Int) (v : ByteArray) (x y' : Int) (A : Option Addr) (m c : Nat) (w : World) (hr : SD w w.heap.size A m c ds) (hn : m ≤ 1048576) (hv : vFlag ds b = true) (hT : RT w w.heap.size) :
    Calls Tryz.prog 56 #[.agg #[.slice A m c, .int .i64 b], .string v, .int .i64 x, .int .i64 y'] w (AnsE (twoT ds b v x y') w) := by
  have HF := Lib.hid (FB.start hr b)
  have HT : Hid (RT (w.alloc (.cells #[.slice A m c, .int .i64 b] 35)) (w.alloc (.cells #[.slice A m c, .int .i64 b] 35)).heap.size) := Lib.hid (hT.low ((Below.refl _ _).alloc (Nat.le_refl _) _))
  have HV := Lib.hid hv
  clear hr hT hv
  obtain ⟨w0, hw⟩ : ∃ W : World, W = (w.alloc (.cells #[.slice A m c, .int .i64 b] 35)) := ⟨_, rfl⟩
  have HW := Lib.hid hw.symm
  rw [← hw] at HF HT
  clear hw
  by_cases horB : v = orB
  · skip
    subst horB
    have HM : Hid (twoT ds b orB x y' = mShowV ds b (mOp orN ds b x y')) := Lib.hid (by unfold twoT; rw [if_pos rfl])
    have c0 := HF.out.c0
    have c1 := HF.out.c1
    obtain ⟨y, hy⟩ : ∃ y, mOp orN ds b x y' = y := ⟨_, rfl⟩
    have HY := Lib.hid hy
    rw [hy] at HM
    obtain ⟨t, ht⟩ : ∃ t, mShowV ds b y = t := ⟨_, rfl⟩
    have HTT := Lib.hid ht
    rw [ht] at HM
    clear hy ht
    unfold orB
    go_enter Tryz.func56, Tryz.ntmps56
    go_wp2_with fail
    rw [HW.out]
    go_region_held3 (fun w' => w'.cell? ⟨w.heap.size, 0, none⟩ = some (.slice A m c) ∧ w'.cell? ⟨w.heap.size, 1, none⟩ = some (.int .i64 b))
      (first | go_keep | exact ⟨c0, c1⟩ | exact ⟨d0, d1⟩ | exact ⟨e0, e1⟩)
      (first
        | (go_at_call 99; refine (implOr_v ds b x y' _ _ _ _ (HF.out.sd.drewN 1) hn HY.out).mono ?_; rintro e w1 ⟨rfl, hb⟩; replace hb : Below w0.heap.size w0 w1 := (by first | exact hb | exact undrew hb); have HF1 := Lib.hid (HF.out.call hb); have HT1 := Lib.hid (HT.out.low hb); have d0 := HF1.out.c0; have d1 := HF1.out.c1; clear hb)
        | (go_at_call 93; refine (implShowV_v ds b y _ _ _ _ HF1.out.sd hn HT1.out HTT.out).mono ?_; rintro e w2 ⟨rfl, hb⟩; have HF2 := Lib.hid (HF1.out.call hb); have e0 := HF2.out.c0; have e1 := HF2.out.c1; clear hb))
    go_wp2
    go_ret2
    exact ⟨t, .nilIface, rfl, .inl ⟨rfl, HM.out.symm⟩, HF2.out.bel⟩
  have norB := dk_no (l := [111, 114]) horB
  by_cases handB : v = andB
  · skip
    subst handB
    have HM : Hid (twoT ds b andB x y' = mShowV ds b (mOp andN ds b x y')) := Lib.hid (by unfold twoT; rw [if_neg (by decide), if_pos rfl])
    have c0 := HF.out.c0
    have c1 := HF.out.c1
    obtain ⟨y, hy⟩ : ∃ y, mOp andN ds b x y' = y := ⟨_, rfl⟩
    have HY := Lib.hid hy
    rw [hy] at HM
    obtain ⟨t, ht⟩ : ∃ t, mShowV ds b y = t := ⟨_, rfl⟩
    have HTT := Lib.hid ht
    rw [ht] at HM
    clear hy ht
    unfold andB
    go_enter Tryz.func56, Tryz.ntmps56
    go_wp2_with fail
    rw [HW.out]
    go_region_held3 (fun w' => w'.cell? ⟨w.heap.size, 0, none⟩ = some (.slice A m c) ∧ w'.cell? ⟨w.heap.size, 1, none⟩ = some (.int .i64 b))
      (first | go_keep | exact ⟨c0, c1⟩ | exact ⟨d0, d1⟩ | exact ⟨e0, e1⟩)
      (first
        | (go_at_call 100; refine (implAnd_v ds b x y' _ _ _ _ (HF.out.sd.drewN 1) hn HY.out).mono ?_; rintro e w1 ⟨rfl, hb⟩; replace hb : Below w0.heap.size w0 w1 := (by first | exact hb | exact undrew hb); have HF1 := Lib.hid (HF.out.call hb); have HT1 := Lib.hid (HT.out.low hb); have d0 := HF1.out.c0; have d1 := HF1.out.c1; clear hb)
        | (go_at_call 93; refine (implShowV_v ds b y _ _ _ _ HF1.out.sd hn HT1.out HTT.out).mono ?_; rintro e w2 ⟨rfl, hb⟩; have HF2 := Lib.hid (HF1.out.call hb); have e0 := HF2.out.c0; have e1 := HF2.out.c1; clear hb))
    go_wp2
    go_ret2
    exact ⟨t, .nilIface, rfl, .inl ⟨rfl, HM.out.symm⟩, HF2.out.bel⟩
  have nandB := dk_no (l := [97, 110, 100]) handB
  by_cases hlessB : v = lessB
  · skip
    subst hlessB
    have HM : Hid (twoT ds b lessB x y' = mShowV ds b (mOp nl ds b x y')) := Lib.hid (by unfold twoT; rw [if_neg (by decide), if_neg (by decide), if_pos rfl])
    have c0 := HF.out.c0
    have c1 := HF.out.c1
    obtain ⟨y, hy⟩ : ∃ y, mOp nl ds b x y' = y := ⟨_, rfl⟩
    have HY := Lib.hid hy
    rw [hy] at HM
    obtain ⟨t, ht⟩ : ∃ t, mShowV ds b y = t := ⟨_, rfl⟩
    have HTT := Lib.hid ht
    rw [ht] at HM
    clear hy ht
    unfold lessB
    go_enter Tryz.func56, Tryz.ntmps56
    go_wp2_with fail
    rw [HW.out]
    go_region_held3 (fun w' => w'.cell? ⟨w.heap.size, 0, none⟩ = some (.slice A m c) ∧ w'.cell? ⟨w.heap.size, 1, none⟩ = some (.int .i64 b))
      (first | go_keep | exact ⟨c0, c1⟩ | exact ⟨d0, d1⟩ | exact ⟨e0, e1⟩)
      (first
        | (go_at_call 101; refine (implLess_v ds b x y' _ _ _ _ (HF.out.sd.drewN 1) hn HY.out).mono ?_; rintro e w1 ⟨rfl, hb⟩; replace hb : Below w0.heap.size w0 w1 := (by first | exact hb | exact undrew hb); have HF1 := Lib.hid (HF.out.call hb); have HT1 := Lib.hid (HT.out.low hb); have d0 := HF1.out.c0; have d1 := HF1.out.c1; clear hb)
        | (go_at_call 93; refine (implShowV_v ds b y _ _ _ _ HF1.out.sd hn HT1.out HTT.out).mono ?_; rintro e w2 ⟨rfl, hb⟩; have HF2 := Lib.hid (HF1.out.call hb); have e0 := HF2.out.c0; have e1 := HF2.out.c1; clear hb))
    go_wp2
    go_ret2
    exact ⟨t, .nilIface, rfl, .inl ⟨rfl, HM.out.symm⟩, HF2.out.bel⟩
  have nlessB := dk_no (l := [108, 101, 115, 115]) hlessB
  have HM : Hid (twoT ds b v x y' = whatB) := Lib.hid (by unfold twoT; rw [if_neg horB, if_neg handB, if_neg hlessB])
  clear horB handB hlessB
  go_enter Tryz.func56, Tryz.ntmps56
  go_wp2
  rw [HW.out]
  go_ret2
  exact ⟨⟨#[]⟩, .iface 74 (.agg #[.string whatB]), rfl, .inr ⟨rfl, by rw [HM.out]⟩, HF.out.bel⟩

end Go.Proofs.YtiebdhbioccogaaGreatDoor
