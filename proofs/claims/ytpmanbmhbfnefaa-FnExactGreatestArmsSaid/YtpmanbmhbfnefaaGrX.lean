import Derived.Test.YtpmanbmhbfnefaaGrZ
namespace Go.Proofs.Ytpmanbmhbfnefaa
open Go.RowKit Go.Maps
set_option linter.unusedVariables false
set_option linter.unusedSimpArgs false
set_option maxRecDepth 100000

/-! ### the program's GreatestArms -/
theorem mArms_nil (ds : List D) (b : Int) : mArms ds b [] = vFlag ds b := by unfold mArms; simp
theorem mIsV_mask {ds : List D} {b : Int} (h : vFlag ds b = true) : mIsV ds b ((mMask ds : Nat) : Int) = true := by
  have h4 := mMask_lt12 (vFlag_in h)
  unfold mIsV
  rw [h, Int.toNat_natCast, decide_eq_true (show (0 : Int) ≤ (mMask ds : Int) by omega), decide_eq_true (show ((mMask ds : Nat) : Int) ≤ 4095 by omega), decide_eq_true (show nl (mMask ds) (mMask ds) = 0 from nl_zero.2 fun i hi => hi)]
  simp
theorem okG_wild {x : Int} (hx : I64 x) {k : Nat} (hk : k < 4096) : decide (bits .andNot .i64 x (k : Int) = 0) = okG k x := by
  have h : bits .andNot .i64 x (k : Int) = 0 ↔ nl (BitVec.ofInt 64 x).toNat k = 0 := by
    show IntKind.i64.wrap ((BitVec.ofInt 64 x &&& ~~~BitVec.ofInt 64 (k : Int)).toNat : Int) = 0 ↔ _
    rw [wrap_zero, toNat_andNot _ k hk]
  unfold okG
  rw [Bool.eq_iff_iff]
  simp only [decide_eq_true_eq, Bool.and_eq_true]
  rw [h]
  constructor
  · intro h1
    have a1 := part_le h1
    obtain ⟨b1, c1⟩ := toNat_of_small hx (by omega)
    rw [c1] at h1 a1
    exact ⟨⟨b1, by omega⟩, h1⟩
  · rintro ⟨⟨b1, _⟩, h1⟩
    rw [toNat_of_pos hx b1]
    exact h1
theorem flatW_is (m : Nat) (list : List Int) : ((partsTo m (m + 1)).flatMap fun p => rowW (partsTo m (m + 1)) list p (partsTo m (m + 1))) = mArmsIn m list := by
  unfold mArmsIn armsA
  rw [List.flatMap_def, List.flatMap_def]
  congr 1
  apply List.map_congr_left
  intro p hp
  obtain ⟨t, rfl, _⟩ := partsG_mem hp
  exact rowW_is m t list
/-- A box of 4096 bools that can be written. -/
structure BF (w : World) (g : Nat) (F : Nat → Bool) : Prop where
  b : BX w g F
  f : ∀ j, j < 4096 → w.frozen? ⟨g, j, none⟩ = false
theorem BF.low {w w' : World} {g B : Nat} {F : Nat → Bool} (h : BF w g F) (hb : Below B w w') (hg : g < B) : BF w' g F :=
  ⟨h.b.low hb hg, fun j hj => (hb.frozen (p := ⟨g, j, none⟩) hg).trans (h.f j hj)⟩
theorem BF.below {w w' : World} {g : Nat} {F : Nat → Bool} (h : BF w g F) (hb : Below w.heap.size w w') : BF w' g F := h.low hb h.b.lt
theorem bf_new (w : World) (wv : Array Value) (t : TypeId) (F : Nat → Bool) (h : ∀ j, j < 4096 → wv[j]? = some (.bool (F j))) : BF (w.alloc (.cells wv t)) w.heap.size F :=
  ⟨bx_new w wv t F h, fun j hj => by simp [go_sem]⟩
theorem BF.set {w : World} {g : Nat} {F : Nat → Bool} (h : BF w g F) {i : Nat} (hi : i < 4096) {G : Nat → Bool} (hG : ∀ j, j < 4096 → G j = if j = i then true else F j) : BF (w.setCell ⟨g, i, none⟩ (.bool true)) g G := by
  refine ⟨⟨fun j hj => ?_, by simpa using h.b.lt⟩, fun j hj => by rw [fro_set]; exact h.f j hj⟩
  rw [hG j hj]
  by_cases e : j = i
  · subst e; rw [if_pos rfl]; exact World.cell?_setCell_same' _ _ _ (by rw [h.b.c j hj]; rfl)
  · rw [if_neg e]; exact (World.cell?_setCell_other w _ _ _ (fun e => by injection e with _ e2; first | omega | exact absurd e2 (by omega))).trans (h.b.c j hj)
theorem exec_load {P : Program} {w : World} {o : Oper} {ρ : Operand → Value} {t : TypeId} {x : Operand} {p v : Value} (ho : o.op = .load t x) (hx : ρ x = p) (h : (Instr.loadAt t p).run P w = .ok v w) : (execOp ρ o).run P w = .ok (.value v) w := by
  unfold execOp
  simp only [ho, hx, Sem.run_bind, h, Sem.run_pure, Result.andThen_ok]
def seenG (list : List Int) (j t : Nat) : Bool := (list.take j).any fun y => decide (y = (t : Int))
theorem seenG_succ {list : List Int} {j : Nat} (hj : j < list.length) (t : Nat) {x : Nat} (hx : list[j] = (x : Int)) : seenG list (j + 1) t = if t = x then true else seenG list j t := by
  unfold seenG
  rw [any_take_succ _ _ _ hj, hx]
  by_cases e : t = x
  · subst e; rw [if_pos rfl]; simp
  · rw [if_neg e, decide_eq_false (by omega), Bool.or_false]
def grV (arms : List Ar) (j : Nat) : List Ar := (arms.take j).filter fun a => !covV arms a
theorem grV_succ {arms : List Ar} {j : Nat} (hj : j < arms.length) : grV arms (j + 1) = grV arms j ++ if covV arms arms[j] then [] else [arms[j]] := by
  unfold grV
  rw [List.take_succ_eq_append_getElem hj, List.filter_append]
  congr 1
  rw [List.filter_cons, List.filter_nil]
  cases covV arms arms[j] <;> rfl
theorem grV_len (arms : List Ar) (j : Nat) : (grV arms j).length ≤ j := by
  unfold grV
  have h1 := List.length_filter_le (fun a => !covV arms a) (arms.take j)
  have h2 : (arms.take j).length ≤ j := by rw [List.length_take]; omega
  omega
theorem grV_all (arms : List Ar) : grV arms arms.length = mGrV arms := by unfold grV mGrV; rw [List.take_of_length_le (Nat.le_refl _)]

set_option maxHeartbeats 16000000 in
theorem implGreat_any (ds : List D) (b : Int) (list : List Int) (A : Option Addr) (m c : Nat) (w : World) (hr : SD w w.heap.size A m c ds) (Bs : Option Addr) (q cs : Nat) (hs : SI w w.heap.size Bs q cs list) (hn : m ≤ 1048576) :
    Calls Try.prog 28 #[.agg #[.slice A m c, .int .i64 b], .slice Bs q cs] w (ArmsP (mGreat ds b list) w) := by
  have hl := hs.max
  have hl2 := hs.cap
  unfold maxLen at hl
  obtain rfl := hs.len
  have HF := Lib.hid (FB.start hr b)
  have HS : Hid (SI (w.alloc (.cells #[.slice A m c, .int .i64 b] 58)) w.heap.size Bs list.length cs list) := Lib.hid (hs.below HF.out.bel)
  clear hr hs
  cases hv : vFlag ds b
  · have HM : Hid (mGreat ds b list = []) := Lib.hid (mGreat_no (by rw [mGrOk_is, hv]; rfl))
    have HV : Hid (mArms ds b [] = false) := Lib.hid (by rw [mArms_nil, hv])
    have HR2 : Hid ((if mArms ds b [] then ((mMask ds : Nat) : Int) else 0) = 0) := Lib.hid (if_no HV.out)
    clear hv
    have c0 := HF.out.c0
    have c1 := HF.out.c1
    go_enter Try.func28, Try.ntmps28
    go_wp2_with fail
    generalize (w.alloc (.cells #[.slice A m c, .int .i64 b] 58)) = w0 at *
    refine (armsMask_v ds b [] _ _ _ _ HF.out.sd none 0 0 (SA.none_ _ _) hn HV.out HR2.out).mono ?_
    rintro e w1 ⟨rfl, hb⟩
    have HB1 := Lib.hid (HF.out.after hb)
    clear hb c0 c1
    go_wp2
    go_ret
    exact ⟨none, 0, by rw [HM.out]; rfl, by rw [HM.out]; exact World.ownsRow_nil _ _ _ _, HB1.out⟩
  obtain ⟨k, hk⟩ : ∃ k, mMask ds = k := ⟨_, rfl⟩
  have hk4 : k < 4096 := by rw [← hk]; exact mMask_lt12 (vFlag_in hv)
  have HIV : Hid (mIsV ds b (k : Int) = true) := Lib.hid (by rw [← hk]; exact mIsV_mask hv)
  have HOKE : Hid (mGrOk ds b list = (decide (popc k ≤ 6) && decide (list.length ≤ 64) && list.all (okG k))) := Lib.hid (by rw [mGrOk_is, hv, hk, Bool.true_and])
  have HGR : Hid (mGrOk ds b list = true → mGreat ds b list = mGrV (mArmsIn k list)) := Lib.hid (fun h => by rw [mGreat_V, h, if_pos rfl, hk])
  have HV : Hid (mArms ds b [] = true) := Lib.hid (by rw [mArms_nil, hv])
  have HR2 : Hid ((if mArms ds b [] then ((mMask ds : Nat) : Int) else 0) = (k : Int)) := Lib.hid (by rw [HV.out, if_pos rfl, hk])
  obtain ⟨pc, hpc⟩ : ∃ x, popc k = x := ⟨_, rfl⟩
  have HPC := Lib.hid hpc
  have HMC : Hid (mCount ds b (k : Int) = (pc : Int)) := Lib.hid (by unfold mCount; rw [HIV.out, if_pos rfl, Int.toNat_natCast, hpc])
  rw [hpc] at HOKE
  clear hv hk hpc
  have c0 := HF.out.c0
  have c1 := HF.out.c1
  go_enter Try.func28, Try.ntmps28
  go_wp2_with fail
  generalize (w.alloc (.cells #[.slice A m c, .int .i64 b] 58)) = w0 at *
  refine (armsMask_v ds b [] _ _ _ _ HF.out.sd none 0 0 (SA.none_ _ _) hn HV.out HR2.out).mono ?_
  rintro e w1 ⟨rfl, hb⟩
  have HF1 := Lib.hid (HF.out.call hb)
  have HS1 : Hid (SI w1 w.heap.size Bs list.length cs list) := Lib.hid (HS.out.below' hb HF.out.bel.size)
  clear hb c0 c1 HF HS
  have c0 := HF1.out.c0
  have c1 := HF1.out.c1
  by_cases h64 : list.length ≤ 64
  case neg =>
    have HM : Hid (mGreat ds b list = []) := Lib.hid (mGreat_no (by rw [HOKE.out, decide_eq_false h64, Bool.and_false]; rfl))
    have h64i : (64 : Int) < (list.length : Int) := by omega
    go_wp2
    go_ret
    exact ⟨none, 0, by rw [HM.out]; rfl, by rw [HM.out]; exact World.ownsRow_nil _ _ _ _, HF1.out.bel⟩
  have h64i : ¬ (64 : Int) < (list.length : Int) := by omega
  by_cases h6 : pc ≤ 6
  case neg =>
    have HM : Hid (mGreat ds b list = []) := Lib.hid (mGreat_no (by rw [HOKE.out, decide_eq_false h6]; rfl))
    have h6i : (6 : Int) < (pc : Int) := by omega
    go_wp2_with fail
    refine (implCount_v ds b k _ _ _ _ HF1.out.sd hn HMC.out).mono ?_
    rintro e w2 ⟨rfl, hb⟩
    have HB2 := Lib.hid (HF1.out.after hb)
    clear hb
    go_wp2
    go_ret
    exact ⟨none, 0, by rw [HM.out]; rfl, by rw [HM.out]; exact World.ownsRow_nil _ _ _ _, HB2.out⟩
  have h6i : ¬ (6 : Int) < (pc : Int) := by omega
  go_wp2_with fail
  refine (implCount_v ds b k _ _ _ _ HF1.out.sd hn HMC.out).mono ?_
  rintro e w2 ⟨rfl, hb⟩
  have HF2 := Lib.hid (HF1.out.call hb)
  have HS2 : Hid (SI w2 w.heap.size Bs list.length cs list) := Lib.hid (HS1.out.below' hb HF1.out.bel.size)
  clear hb c0 c1 HF1 HS1
  go_upto_region 4 with fail
  obtain ⟨zv, hz, hzv⟩ := zeroV
  refine wp_region_lit ?_
  refine wpList_allocBig rfl _ rfl _ info4096 zv hz ?_
  obtain ⟨w3, hw⟩ : ∃ W : World, W = (w2.alloc (.cells zv 114)) := ⟨_, rfl⟩
  obtain ⟨G, hG⟩ : ∃ g, w2.heap.size = g := ⟨_, rfl⟩
  have hb : Below w2.heap.size w2 w3 := by rw [hw]; exact (Below.refl _ _).alloc (Nat.le_refl _) _
  have HX_3 : Hid (BF w3 G (seenG list 0)) := Lib.hid (by rw [hw, ← hG]; exact bf_new w2 zv _ _ (fun j hj => by rw [hzv j hj]; rfl))
  have HF_3 := Lib.hid (HF2.out.call hb)
  have HS_3 : Hid (SI w3 w.heap.size Bs list.length cs list) := Lib.hid (HS2.out.below' hb HF2.out.bel.size)
  have hGw : w.heap.size + 1 ≤ G := by rw [← hG]; exact World.block_lt_of_cell? _ _ HF2.out.c0
  have HW3 : Hid ((w2.alloc (.cells zv 114)) = w3) := Lib.hid hw.symm
  rw [HW3.out, hG]
  clear hw hb hz hzv HF2 HS2 hG HW3
  go_wp2
  go_loopw [34] (fun i wr => ∃ j : Nat, j ≤ list.length ∧ i = .int .i64 j ∧ Hid ((list.take j).all (okG k) = true) ∧ Hid (BF wr G (seenG list j)) ∧ Hid (FB w wr w.heap.size A m c ds b) ∧ Hid (SI wr w.heap.size Bs list.length cs list)) (fun i _ => list.length - (intOf i).toNat)
  case atStart => exact ⟨0, Nat.zero_le _, rfl, Lib.hid rfl, HX_3, HF_3, HS_3⟩
  case round =>
    clear HX_3 HF_3 HS_3
    obtain ⟨j, hj, rfl, hok, HX_4, HF_4, HS_4⟩ := hrel
    by_cases hlt : j < list.length
    · obtain ⟨bb, o, hA, hbb, d1⟩ := HS_4.out.at_ hlt
      subst hA
      have hi1 : (j : Int) < (list.length : Int) := by omega
      have hi0 : (0 : Int) ≤ (j : Int) := by omega
      have HI64 : Hid (I64 list[j]) := Lib.hid (by have := HS_4.out.ok _ (List.getElem_mem hlt); unfold I64; omega)
      have HSN := Lib.hid (okG_snoc (k := k) hlt)
      have HBD : Hid (okG k list[j] = false → mGreat ds b list = []) := Lib.hid (fun h => mGreat_no (by rw [HOKE.out, okG_bad hlt h, Bool.and_false]))
      have HSE : Hid (∀ x : Nat, list[j] = (x : Int) → ∀ t, seenG list (j + 1) t = if t = x then true else seenG list j t) := Lib.hid (fun x hx t => seenG_succ hlt t hx)
      generalize list[j] = x at *
      have HW := Lib.hid (okG_wild HI64.out hk4)
      cases hx : okG k x
      · have HM : Hid (mGreat ds b list = []) := Lib.hid (HBD.out hx)
        have HX : Hid (decide (bits .andNot .i64 x (k : Int) = 0) = false) := Lib.hid (by rw [HW.out, hx])
        clear hx
        go_wp2_with (go_at_call 73; refine (bsHas_w k x _ HX.out).mono ?_; rintro e w5 ⟨rfl, rfl⟩)
        go_ret
        exact ⟨none, 0, by rw [HM.out]; rfl, by rw [HM.out]; exact World.ownsRow_nil _ _ _ _, HF_4.out.bel⟩
      · have HX : Hid (decide (bits .andNot .i64 x (k : Int) = 0) = true) := Lib.hid (by rw [HW.out, hx])
        have HP : Hid ((list.take (j + 1)).all (okG k) = true) := Lib.hid (by rw [HSN.out, hok.out, hx]; rfl)
        unfold okG at hx
        rw [Bool.and_eq_true, Bool.and_eq_true, decide_eq_true_iff, decide_eq_true_iff] at hx
        obtain ⟨t, rfl⟩ := Int.eq_ofNat_of_zero_le hx.1.1
        have ht4 : t < 4096 := by omega
        have ht0 : (0 : Int) ≤ (t : Int) := by omega
        have ht1 : (t : Int) < 4096 := by omega
        have HS5 := Lib.hid (HSE.out t rfl)
        clear hx
        have e0 := HX_4.out.b.c t ht4
        have f0 := HX_4.out.f t ht4
        go_wp2_with (go_at_call 73; refine (bsHas_w k t _ HX.out).mono ?_; rintro e w5 ⟨rfl, rfl⟩)
        go_roundw
        case rel => exact ⟨j + 1, by omega, by go_num, HP, Lib.hid (HX_4.out.set ht4 (fun j _ => HS5.out j)), Lib.hid (HF_4.out.set (by simp; omega) (by simp; omega) _), Lib.hid (HS_4.out.keep fun r => Rd.setCell r (by simp; omega) _)⟩
        case measure => simp [intOf]; omega
    · obtain rfl : j = list.length := by omega
      have hj9 : ¬ (list.length : Int) < (list.length : Int) := by omega
      have HM : Hid (mGreat ds b list = mGrV (mArmsIn k list)) := Lib.hid (HGR.out (by have h := hok.out; rw [List.take_of_length_le (Nat.le_refl _)] at h; rw [HOKE.out, h, decide_eq_true h6, decide_eq_true h64]; rfl))
      have hp6 : popc k ≤ 6 := by rw [HPC.out]; exact h6
      have HNAT := Lib.hid (arms_arN (list := list) hk4)
      have hal := mArmsIn_len (list := list) hp6
      have HMP : Hid (mParts ds b (k : Int) = partsTo k (k + 1)) := Lib.hid (by unfold mParts mPartsOk; rw [HIV.out, Int.toNat_natCast, decide_eq_true hp6]; rfl)
      have HIN : Hid (∀ x ∈ partsTo k (k + 1), ∃ t : Nat, x = (t : Int) ∧ t < 4096) := Lib.hid (fun x hx => by obtain ⟨t, e1, h1, _⟩ := partsG_mem hx; exact ⟨t, e1, by omega⟩)
      have hal64 := parts64 hp6
      have HSG : Hid (∀ t : Nat, t < 4096 → seenG list list.length t = list.any fun y => decide (y = (t : Int))) := Lib.hid (fun t _ => by unfold seenG; rw [List.take_of_length_le (Nat.le_refl _)])
      have HFW := Lib.hid (flatW_is k list)
      generalize seenG list list.length = F at *
      obtain ⟨av, hav⟩ : ∃ av, ((List.range 4096).map fun j => Value.bool (F j)).toArray = av := ⟨_, rfl⟩
      have HAV : Hid (∀ j, j < 4096 → av[j]? = some (.bool (F j))) := Lib.hid (fun j hj => by rw [← hav]; simp [hj])
      have HLB : Hid (∀ wz : World, (∀ j, j < 4096 → wz.cell? ⟨G, j, none⟩ = some (.bool (F j))) → (Instr.loadAt 114 (.pointer (some ⟨G, 0, none⟩))).run Try.prog wz = .ok (.agg av) wz) := Lib.hid (fun wz h => by rw [← hav]; exact run_loadBig _ _ 4096 4 Try.underlying114 info4096 size4096 G F h)
      clear hav
      generalize mArmsIn k list = arms at *
      generalize partsTo k (k + 1) = all at *
      have c0 := HF_4.out.c0
      have c1 := HF_4.out.c1
      have HC := Lib.hid HX_4.out.b.c
      obtain ⟨w4, hwn⟩ : ∃ W : World, W = wr := ⟨_, rfl⟩
      subst hwn
      go_upto_region 12 with fail
      refine wp_region_held_drew (S := fun w' => w'.cell? ⟨w.heap.size, 0, none⟩ = some (.slice A m c) ∧ w'.cell? ⟨w.heap.size, 1, none⟩ = some (.int .i64 b) ∧ Hid (∀ j, j < 4096 → w'.cell? ⟨G, j, none⟩ = some (.bool (F j)))) (by kernel_rfl) ⟨c0, c1, HC⟩ (fun hHeld => ?_)
      have hb : Below w4.heap.size w4 w4.drew := (Below.refl _ _).drew
      have HF_5 := Lib.hid (HF_4.out.call hb)
      have HX_5 := Lib.hid (HX_4.out.below hb)
      clear HF_4 HX_4 HS_4 hb c0 c1 HC
      generalize w4.drew = w5 at *
      refine wpAnyH_take (i := 0) (v := ?_) rfl (by kernel_rfl) (by kernel_rfl) (by kernel_rfl) (fun _ _ _ h => h) (Or.inl ⟨by kernel_rfl, ?_⟩) hHeld ?_
      rotate_left
      · intro wz hSw
        try dsimp only at hSw
        first
        | (go_simp; done)
        | (go_simp; with_reducible rfl)
      try simp only [Act.put, List.setIfInBounds_toArray, List.set_cons_zero, List.set_cons_succ]
      refine wpAnyH_take (i := 1) (v := ?_) rfl (by kernel_rfl) (by kernel_rfl) (by kernel_rfl) (fun _ _ _ h => h) (Or.inl ⟨by kernel_rfl, ?_⟩) hHeld ?_
      rotate_left
      · intro wz hSw
        try dsimp only at hSw
        first
        | (go_simp; done)
        | (go_simp; with_reducible rfl)
      try simp only [Act.put, List.setIfInBounds_toArray, List.set_cons_zero, List.set_cons_succ]
      refine wpAnyH_take (i := 3) (v := .agg av) rfl (by kernel_rfl) (by kernel_rfl) (by kernel_rfl) (fun _ _ _ h => h) (Or.inl ⟨by kernel_rfl, fun wz hSw => exec_load rfl rfl (HLB.out wz hSw.2.2.out)⟩) hHeld ?_
      try simp only [Act.put, List.setIfInBounds_toArray, List.set_cons_zero, List.set_cons_succ]
      refine wpAnyH_ready (rs := [2]) (by kernel_rfl) (by simp) ?_
      refine AllReadyH.cons rfl (fun K hK => ?_) AllReadyH.nil
      go_simp
      go_at_call 36
      refine (implParts_any ds b k _ _ _ _ HF_5.out.sd hn).mono ?_
      rintro e w6 ⟨Ap, cp, rfl, ho, hb⟩
      rw [HMP.out] at ho ⊢
      have HRG : Hid (∀ x ∈ all, -9223372036854775808 ≤ x ∧ x ≤ 9223372036854775807) := Lib.hid (fun x hx => by obtain ⟨t, e1, h1⟩ := HIN.out x hx; omega)
      have HS6 := Lib.hid (si_of_own ho HRG.out)
      have HF_6 := Lib.hid (HF_5.out.call hb)
      have HX_6 := Lib.hid (HX_5.out.below hb)
      clear ho hb HF_5 HX_5
      refine hK.out _ _ ⟨HF_6.out.c0, HF_6.out.c1, Lib.hid HX_6.out.b.c⟩ (fun hHeld => ?_)
      clear hK K
      try simp only [Act.put, List.setIfInBounds_toArray, List.set_cons_zero, List.set_cons_succ]
      refine wpAnyH_ready (rs := [4]) (by kernel_rfl) (by simp) ?_
      refine AllReadyH.cons rfl (fun K hK => ?_) AllReadyH.nil
      go_simp
      go_at_call 74
      refine (armsWithin_any all list Ap all.length cp av F _ HS6.out HIN.out hal64 HAV.out HSG.out HFW.out).mono ?_
      rintro e w7 ⟨Aa, ca, rfl, ho, hb⟩
      have HA7 := Lib.hid (sa_of_own ho (fun a ha => arN_ok (HNAT.out a ha)))
      have HF_7 := Lib.hid (HF_6.out.call hb)
      have HX_7 := Lib.hid (HX_6.out.below hb)
      clear ho hb HF_6 HX_6
      refine hK.out _ _ ⟨HF_7.out.c0, HF_7.out.c1, Lib.hid HX_7.out.b.c⟩ (fun hHeld => ?_)
      clear hK K
      try simp only [Act.put, List.setIfInBounds_toArray, List.set_cons_zero, List.set_cons_succ]
      refine wpAnyH_take (i := 5) (v := ?_) rfl (by kernel_rfl) (by kernel_rfl) (by kernel_rfl) (fun _ _ _ h => h) (Or.inl ⟨by kernel_rfl, ?_⟩) hHeld ?_
      rotate_left
      · intro wz hSw
        try dsimp only at hSw
        first
        | (go_simp; done)
        | (go_simp; with_reducible rfl)
      try simp only [Act.put, List.setIfInBounds_toArray, List.set_cons_zero, List.set_cons_succ]
      refine wpAnyH_done (by kernel_rfl) ?_ _
      try go_simp
      have HB7 := Lib.hid HF_7.out.bel
      clear hHeld HF_7 HX_7
      obtain ⟨G2, hG2⟩ : ∃ g, w7.heap.size = g := ⟨_, rfl⟩
      have HR7 : Hid (w7.ownsRow G2 72 2 (.slice none 0 0) (grV arms 0).length (flatA (grV arms 0))) := Lib.hid (World.ownsRow_nil _ _ _ _)
      have HL7 : Hid (Below G2 w7 w7) := Lib.hid (Below.refl _ _)
      have hg7 : G2 ≤ w7.heap.size := by omega
      have hwG : w.heap.size ≤ G2 := by rw [← hG2]; exact HB7.out.size
      rw [hG2] at HA7
      have HGG := Lib.hid hG2
      clear hG2
      have hsl := HA7.out.max
      have hsc := HA7.out.cap
      unfold maxLen at hsl
      go_wp2
      go_loopw [11, 52] (fun v i wr => ∃ j : Nat, j ≤ arms.length ∧ i = .int .i64 j ∧ Hid (wr.ownsRow G2 72 2 v (grV arms j).length (flatA (grV arms j))) ∧ Hid (Below G2 w7 wr) ∧ G2 ≤ wr.heap.size) (fun _ i _ => arms.length - (intOf i).toNat)
      case atStart => exact ⟨0, Nat.zero_le _, rfl, HR7, HL7, hg7⟩
      case round =>
        clear HR7 HL7 hg7
        obtain ⟨i, hi, rfl, HR8, HL8, hg8⟩ := hrel
        by_cases hli : i < arms.length
        · have HGS := Lib.hid (grV_succ hli)
          have hgl := grV_len arms i
          obtain ⟨AX, cX, hvx⟩ := own_form HR8.out
          subst hvx
          generalize hgr : grV arms i = gs at *
          have HGT := Lib.hid hgr
          clear hgr
          have hii : (i : Int) < (arms.length : Int) := by omega
          have hi0 : (0 : Int) ≤ (i : Int) := by omega
          have HAN := Lib.hid (HNAT.out _ (List.getElem_mem hli))
          obtain ⟨b1, o1, hA, hbb1, y1, y2⟩ := (HA7.out.below HL8.out).at_ hli
          subst hA
          obtain ⟨p2, q2, hp2, hq2, lp2, lq2⟩ := HNAT.out _ (List.getElem_mem hli)
          have HAI2 : Hid (arms[i] = ⟨(p2 : Int), (q2 : Int)⟩) := Lib.hid (by cases h : arms[i]; rw [h] at hp2 hq2; simp only at hp2 hq2; rw [hp2, hq2])
          rw [HAI2.out] at y1 y2 HGS HAN
          obtain ⟨cv, hcv⟩ : ∃ v, covV arms ⟨(p2 : Int), (q2 : Int)⟩ = v := ⟨_, rfl⟩
          have HCV := Lib.hid hcv
          rw [hcv] at HGS
          clear hcv hp2 hq2
          obtain ⟨w9, hw⟩ : ∃ W : World, W = (wr.alloc (.cells #[.int .i64 p2, .int .i64 q2] 72)) := ⟨_, rfl⟩
          obtain ⟨G3, hG3⟩ : ∃ g, wr.heap.size = g := ⟨_, rfl⟩
          have hb : Below wr.heap.size wr w9 := by rw [hw]; exact (Below.refl _ _).alloc (Nat.le_refl _) _
          have HD_9 : Hid (C2 w9 G3 (.int .i64 p2) (.int .i64 q2)) := Lib.hid (by rw [hw, ← hG3]; exact c2New _ _ _ _)
          have HW9 : Hid ((wr.alloc (.cells #[.int .i64 p2, .int .i64 q2] 72)) = w9) := Lib.hid hw.symm
          have HR9 := Lib.hid (own_below HR8.out hb)
          have HL9 : Hid (Below G2 w7 w9) := Lib.hid (HL8.out.trans (hb.mono hg8))
          have hg9 : G2 ≤ w9.heap.size := by have := hb.size; omega
          have HS9 : Hid (SA w9 w9.heap.size (some ⟨b1, o1, none⟩) arms.length ca arms) := Lib.hid ((HA7.out.below HL9.out).call hg9)
          have HG3 := Lib.hid hG3
          clear hw hb hG3 HR8 HL8 hg8
          go_wp2_with fail
          rw [HW9.out, HG3.out]
          go_at_call 75
          refine (anyGr_v arms _ _ _ _ _ HS9.out HNAT.out HAN.out G3 HD_9.out.c0 HD_9.out.c1 HCV.out).mono ?_
          rintro e w10 ⟨rfl, hb⟩
          have HD10 := Lib.hid (HD_9.out.below hb)
          have HR10 := Lib.hid (own_below HR9.out hb)
          have HL10 : Hid (Below G2 w7 w10) := Lib.hid (HL9.out.trans (hb.mono hg9))
          have hg10 : G2 ≤ w10.heap.size := by have := hb.size; omega
          clear hb HD_9 HR9 HL9 hg9 HS9 HW9
          cases cv
          · have HE : Hid (grV arms (i + 1) = gs ++ [⟨(p2 : Int), (q2 : Int)⟩]) := Lib.hid (by rw [HGS.out]; simp)
            have c0 := HD10.out.c0
            have c1 := HD10.out.c1
            go_wp2_with (at_builtin; refine wpList_app_Ag rfl _ _ rfl _ _ _ _ rfl HR10.out _ _ _ _ rfl (by first | rfl | simp) (by omega) hg10 ?_; intro v' w11 ho hb hg; have HX11 := Lib.hid ho; have HL11 : Hid (Below G2 w7 w11) := Lib.hid (HL10.out.trans hb); have hG11 : G2 ≤ w11.heap.size := (by have := hg.size; omega); clear ho hb hg)
            go_roundw
            case rel => exact ⟨i + 1, by omega, by go_num, Lib.hid (by rw [HE.out]; have h := HX11.out; rw [List.length_append]; simpa [flatA, encA] using h), HL11, hG11⟩
            case measure => simp [intOf]; omega
          · have HE : Hid (grV arms (i + 1) = gs) := Lib.hid (by rw [HGS.out]; simp)
            go_wp2
            go_roundw
            case rel => exact ⟨i + 1, by omega, by go_num, Lib.hid (by rw [HE.out]; exact HR10.out), HL10, hg10⟩
            case measure => simp [intOf]; omega
        · obtain rfl : i = arms.length := by omega
          have hi9 : ¬ (arms.length : Int) < (arms.length : Int) := by omega
          rw [grV_all] at HR8
          obtain ⟨AX, cX, hvx⟩ := own_form HR8.out
          subst hvx
          go_wp2
          go_ret
          exact ⟨AX, cX, by rw [HM.out]; first | done | rfl, by rw [HM.out]; exact own_base HR8.out hwG, HB7.out.trans (HL8.out.mono hwG)⟩
end Go.Proofs.Ytpmanbmhbfnefaa
