import Derived.Test.YtbkfagncoekbkaaMissP
import Derived.BigQuiet
import Derived.Test.YtbkfagncoekbkaaZapT
namespace Go.Proofs.Ytbkfagncoekbkaa
open Go.RowKit Go.Maps
set_option linter.unusedVariables false
set_option maxRecDepth 100000

/-- 'append(out, x)', x one text: the row behind it, and what of the world is as it was. -/
theorem wpList_app_Sg {W : World} {ops : Array Oper} {rest : List Oper} {o : Oper} {a : Act} {Q : Exit → Act → World → Prop} (hgd : o.guard = none) (s x : Operand) (ho : o.op = .call { callee := .builtin .append, args := #[s, x], argTypes := #[42, 42] })
    (base : Nat) (v : Value) (n : Nat) (xs : List Value) (hs : a.eval s = v) (hown : W.ownsRow base 9 1 v n xs) (nm : ByteArray)
    (c g : Nat) (hx : a.eval x = .slice (some ⟨g, 0, none⟩) 1 c) (hgw : g = W.heap.size) (hn : n ≤ 2000000) (hbase : base ≤ W.heap.size)
    (h : ∀ v' w', w'.ownsRow base 9 1 v' (n + 1) (xs ++ [.string nm]) → Below base W w' → W.grownBy w' v.ownBlock → wpList Try.prog ops Q rest (a.put o.dst v') w') :
    wpList Try.prog ops Q (o :: rest) a (W.alloc (.cells #[.string nm] 9)) := by
  subst hgw
  obtain ⟨i0, hi, hz0, hz1, hz2⟩ := info_parts info_S
  refine wpList_append_own _ hgd s x _ ho base _ i0 _ 1 16 Try.underlying42 hi hz0 hz1 hz2 rfl (by omega) v n xs hs (hown.alloc _) ⟨W.heap.size, 0, none⟩ 1 c [.string nm] hx rfl
    (World.news_of_block (heap_alloc_new W _)) (by simp [Value.oneCell']) (by unfold maxLen; omega) (by omega) (by simp; omega) ?_
  intro v' w' h2 h3 _
  exact h v' w' h2 (((Below.refl _ _).alloc hbase _).grown h3 (by simp; omega) (fun k hk => (hown.lt k hk).1)) ((World.grownBy_alloc W _ _).trans h3)
set_option maxHeartbeats 1000000 in
theorem hasInt_v (ks : List Int) (x : Int) (A : Option Addr) (c n : Nat) (w : World) (hr : SI w w.heap.size A n c ks) {v : Bool} (hv : (ks.any fun y => decide (y = x)) = v) :
    Calls Try.prog 108 #[.slice A n c, .int .i64 x] w fun e w' => e = .returned (.bool v) ∧ Below w.heap.size w w' := by
  subst hv
  obtain rfl := hr.len
  have hl := hr.max
  have hl2 := hr.cap
  unfold maxLen at hl
  have HR := Lib.hid hr
  clear hr
  go_enter Try.func108, Try.ntmps108
  go_wp2
  go_loopw [5] (fun i wr => ∃ k : Nat, k ≤ ks.length ∧ i = .int .i64 k ∧ Hid ((ks.take k).any (fun y => decide (y = x)) = false) ∧ Hid (Below w.heap.size w wr)) (fun i _ => ks.length - (intOf i).toNat)
  case atStart => exact ⟨0, Nat.zero_le _, rfl, Lib.hid (by simp), Lib.hid (Below.refl _ _)⟩
  case round =>
    obtain ⟨k, hk, rfl, hok, hbel⟩ := hrel
    by_cases hlt : k < ks.length
    · obtain ⟨b, o, rfl, hb, c1⟩ := (HR.out.below hbel.out).at_ hlt
      have hi1 : (k : Int) < (ks.length : Int) := by omega
      cases hp : (ks[k] == x)
      · have HP : Hid ((ks.take (k + 1)).any (fun y => decide (y = x)) = false) := Lib.hid (by rw [any_take_succ _ _ _ hlt, hok.out, Bool.false_or, decide_eq_false (by simpa using hp)])
        go_wp2
        go_roundw
        case rel => exact ⟨k + 1, by omega, by go_num, HP, hbel⟩
        case measure => simp [intOf]; omega
      · have HP : Hid (ks.any (fun y => decide (y = x)) = true) := Lib.hid (List.any_eq_true.2 ⟨_, List.getElem_mem hlt, by simpa using hp⟩)
        go_wp2
        go_ret
        exact ⟨ret_bool HP.out.symm, hbel.out⟩
    · obtain rfl : k = ks.length := by omega
      go_wp2
      go_ret
      have := hok.out
      rw [List.take_of_length_le (Nat.le_refl _)] at this
      exact ⟨ret_bool this.symm, hbel.out⟩
theorem valI_ok {ds : List D} (h : ∀ d ∈ ds, d.ok) (s : ByteArray) : -9223372036854775808 ≤ valI ds s ∧ valI ds s ≤ 9223372036854775807 := by
  unfold valI
  cases e : ds[(fidx (isNm s) ds).toNat]? with
  | none => exact ⟨by decide, by decide⟩
  | some d => exact (h d (List.mem_of_getElem? e)).2
theorem metV_list (ds : List D) (ss : List ByteArray) (v : Int) : ((ss.map (valI ds)).any fun y => decide (y = v)) = metV ds ss v := by
  unfold metV; rw [List.any_map]; rfl
set_option maxHeartbeats 8000000 in
theorem specMiss_any (ds : List D) (ss : List ByteArray) (A : Option Addr) (n c : Nat) (w : World) (hr : SD w w.heap.size A n c ds) (As : Option Addr) (q cs : Nat) (hs : SS w w.heap.size As q cs ss) (hn : n ≤ 1048576) (hq : q ≤ 1048576) :
    Calls Try.prog 46 #[.agg #[.slice A n c], .slice As q cs] w (StrsP (mMissM ds ss) w) := by
  have hl := hs.max
  have hl2 := hs.cap
  unfold maxLen at hl
  obtain rfl := hs.len
  have h0 : Below w.heap.size w (w.alloc (.cells #[.slice A n c] 58)) := (Below.refl _ _).alloc (Nat.le_refl _) _
  have HE0 : Hid ((w.alloc (.cells #[.slice A n c] 58)).cell? ⟨w.heap.size, 0, none⟩ = some (.slice A n c)) := Lib.hid (by simp [go_sem])
  have HD0 : Hid (SD (w.alloc (.cells #[.slice A n c] 58)) w.heap.size A n c ds) := Lib.hid (hr.below h0)
  have HS0 : Hid (SS (w.alloc (.cells #[.slice A n c] 58)) w.heap.size As ss.length cs ss) := Lib.hid (hs.below h0)
  have HB0 := Lib.hid h0
  have HOK := Lib.hid hr.ok
  have HML := Lib.hid hr.len
  clear hr hs h0
  obtain ⟨v, hv⟩ : ∃ v, vEnum ds = v := ⟨_, rfl⟩
  have HV := Lib.hid hv
  cases v
  · have HM : Hid (mMissM ds ss = []) := Lib.hid (if_no (by unfold mMissOk; rw [hv]; rfl))
    clear hv
    go_enter Try.func46, Try.ntmps46
    go_wp2_with fail
    generalize (w.alloc (.cells #[.slice A n c] 58)) = w0 at *
    refine (specVE_v ds _ _ _ _ (HD0.out.call HB0.out.size) HV.out).mono ?_
    rintro e w1 ⟨rfl, hb⟩
    have HB1 : Hid (Below w.heap.size w w1) := Lib.hid (HB0.out.trans (hb.mono HB0.out.size))
    clear hb
    go_wp2
    go_ret
    exact ⟨none, 0, by rw [HM.out]; rfl, by rw [HM.out]; exact World.ownsRow_nil _ _ _ _, HB1.out⟩
  have h12 := vEnum_len hv
  clear hv
  go_enter Try.func46, Try.ntmps46
  go_wp2_with fail
  generalize (w.alloc (.cells #[.slice A n c] 58)) = w0 at *
  refine (specVE_v ds _ _ _ _ (HD0.out.call HB0.out.size) HV.out).mono ?_
  rintro e w1 ⟨rfl, hb⟩
  have HE1 := Lib.hid (keep1 hb HE0.out)
  have HD1 := Lib.hid (HD0.out.below' hb HB0.out.size)
  have HS1 := Lib.hid (HS0.out.below' hb HB0.out.size)
  have HB1 : Hid (Below w.heap.size w w1) := Lib.hid (HB0.out.trans (hb.mono HB0.out.size))
  have hlow : w.heap.size < w1.heap.size := World.block_lt_of_cell? _ _ HE1.out
  clear hb HE0 HD0 HS0 HB0
  go_wp2_with fail
  obtain ⟨U, hU⟩ : ∃ U, w1.heap.size = U := ⟨_, rfl⟩
  have HBW : Hid (Below w.heap.size w (w1.alloc (.cells #[] 3))) := Lib.hid (HB1.out.alloc HB1.out.size _)
  have HEW : Hid ((w1.alloc (.cells #[] 3)).cell? ⟨w.heap.size, 0, none⟩ = some (.slice A n c)) := Lib.hid (keep1 ((Below.refl _ _).alloc (Nat.le_refl _) _) HE1.out)
  have HDW : Hid (SD (w1.alloc (.cells #[] 3)) w.heap.size A n c ds) := Lib.hid (HD1.out.alloc HB1.out.size _)
  have HSW : Hid (SS (w1.alloc (.cells #[] 3)) w.heap.size As ss.length cs ss) := Lib.hid (HS1.out.alloc HB1.out.size _)
  have HOW : Hid ((w1.alloc (.cells #[] 3)).ownsRow U 3 1 (.slice (some ⟨w1.heap.size, 0, none⟩) 0 0) ((ss.take 0).map (valI ds)).length (flatI ((ss.take 0).map (valI ds)))) := Lib.hid (by rw [← hU]; exact World.ownsRow_made w1 #[] 0 (Nat.le_refl _) (by unfold maxLen; omega) rfl)
  have HGW : Hid (U ≤ (w1.alloc (.cells #[] 3)).heap.size) := Lib.hid (by rw [← hU]; simp)
  have hwU : w.heap.size < U := by rw [← hU]; exact hlow
  clear HE1 HD1 HS1 HB1
  generalize (w1.alloc (.cells #[] 3)) = w2 at *
  rw [hU] at HOW ⊢
  clear hU hlow
  go_wp2
  go_loopw [5, 6] (fun m i wr => ∃ (k : Nat), k ≤ ss.length ∧ i = .int .i64 k ∧ Hid (wr.ownsRow U 3 1 m ((ss.take k).map (valI ds)).length (flatI ((ss.take k).map (valI ds)))) ∧ Hid (wr.cell? ⟨w.heap.size, 0, none⟩ = some (.slice A n c)) ∧ Hid (SD wr w.heap.size A n c ds) ∧ Hid (SS wr w.heap.size As ss.length cs ss) ∧ Hid (Below w.heap.size w wr) ∧ Hid (U ≤ wr.heap.size) ∧ Hid (∀ l (h : l < ss.length), l < k → 0 ≤ fidx (isNm ss[l]) ds)) (fun _ i _ => ss.length - (intOf i).toNat)
  case atStart => exact ⟨0, Nat.zero_le _, rfl, HOW, HEW, HDW, HSW, HBW, HGW, Lib.hid (fun l hl h => by omega)⟩
  case round =>
    clear HOW HEW HDW HSW HBW HGW
    obtain ⟨k, hk, rfl, hown, he, hd, hss, hbel, hgw, hall⟩ := hrel
    by_cases hlt : k < ss.length
    · obtain ⟨bb, o, hA, hbb, d1⟩ := (hss.out.call hbel.out.size).at_ hlt
      subst hA
      have hi1 : (k : Int) < (ss.length : Int) := by omega
      have hi0 : (0 : Int) ≤ (k : Int) := by omega
      have e1 := he.out
      have HT : Hid (∀ m, SD (wr.drewN m) (wr.drewN m).heap.size A n c ds) := Lib.hid fun m => (hd.out.call hbel.out.size).drewN m
      rcases fidx_cases (isNm ss[k]) ds with ⟨hj, _⟩ | ⟨j, hjl, hj, _, _⟩
      · have HJ := Lib.hid hj
        have HM : Hid (mMissM ds ss = []) := Lib.hid (if_no (by unfold mMissOk; rw [allN_false hlt (by omega), Bool.and_false]))
        clear hj
        go_wp2
        go_quiet ((go_at_call 106; exact quiet_eq (indexOf_v ds _ _ _ _ _ (HT.out _) HJ.out)))
        have HBQ : Hid (Below w.heap.size w (wr.drewN nq)) := Lib.hid (below_drewN hbel.out nq)
        generalize wr.drewN nq = wq at *
        go_wp2
        go_ret
        exact ⟨none, 0, by rw [HM.out]; rfl, by rw [HM.out]; exact World.ownsRow_nil _ _ _ _, HBQ.out⟩
      · have HJ := Lib.hid hj
        have HVAL := Lib.hid (valI_at hjl hj)
        have hjn : (j : Int) < (n : Int) := by have := HML.out; omega
        have hj0 : (0 : Int) ≤ (j : Int) := by omega
        obtain ⟨bd, od, hA, hbd, d2, d3⟩ := (hd.out.call hbel.out.size).at_ hjl
        subst hA
        have HTT : Hid ((ss.take (k + 1)).map (valI ds) = (ss.take k).map (valI ds) ++ [ds[j].val]) := Lib.hid (by rw [List.take_succ_eq_append_getElem hlt, List.map_append]; simp [HVAL.out])
        have HL : Hid (((ss.take k).map (valI ds)).length ≤ 1048576) := Lib.hid (by rw [List.length_map, List.length_take]; omega)
        clear hj
        go_wp2
        go_quiet ((go_at_call 106; exact quiet_eq (indexOf_v ds _ _ _ _ _ (HT.out _) HJ.out)))
        have HBQ : Hid (Below w.heap.size w (wr.drewN nq)) := Lib.hid (below_drewN hbel.out nq)
        have eq1 : (wr.drewN nq).cell? ⟨w.heap.size, 0, none⟩ = some (.slice (some ⟨bd, od, none⟩) n c) := e1
        have dq3 : (wr.drewN nq).cell? ⟨bd, od + j * 2 + 1, none⟩ = some (.int .i64 ds[j].val) := d3
        have HOQ : Hid ((wr.drewN nq).ownsRow U 3 1 u5 ((ss.take k).map (valI ds)).length (flatI ((ss.take k).map (valI ds)))) := hown
        have HEQ := Lib.hid eq1
        have HDQ := Lib.hid (hd.out.drewN nq)
        have HSQ := Lib.hid (hss.out.drewN nq)
        have HGQ : Hid (U ≤ (wr.drewN nq).heap.size) := hgw
        clear d1 d2 d3 e1 hown he hd hss hbel hgw HT
        generalize wr.drewN nq = wq at *
        go_wp2_with (at_builtin; refine wpList_app_I rfl _ _ rfl _ _ _ _ rfl HOQ.out _ _ _ rfl (by first | rfl | simp) (by have := HL.out; omega) HGQ.out ?_; intro v' w4 ho1 hb1; have HO1 := Lib.hid ho1; have HB4 := Lib.hid hb1; clear ho1 hb1)
        go_roundw
        case rel => exact ⟨k + 1, by omega, by go_num, Lib.hid (by rw [HTT.out, List.length_append]; simpa [flatI] using HO1.out), Lib.hid ((HB4.out.cell (p := ⟨w.heap.size, 0, none⟩) hwU).trans HEQ.out), Lib.hid (HDQ.out.below' HB4.out (by omega)), Lib.hid (HSQ.out.below' HB4.out (by omega)), Lib.hid (HBQ.out.trans (HB4.out.mono (by omega))), Lib.hid (Nat.le_trans HGQ.out HB4.out.size), Lib.hid (fun l hl h => by
          by_cases e : l = k
          · subst e; rw [HJ.out]; omega
          · exact hall.out l hl (by omega))⟩
        case measure => simp [intOf]; omega
    · obtain rfl : k = ss.length := by omega
      have HALL : Hid (allN ds ss = true) := Lib.hid (allN_true (fun i hi => hall.out i hi hi))
      have HM : Hid (mMissM ds ss = (missD ds ss (mems ds).length).map (·.name)) := Lib.hid (by unfold mMissM mMissOk; rw [HV.out, HALL.out]; rfl)
      obtain ⟨ks, hks⟩ : ∃ ks, ss.map (valI ds) = ks := ⟨_, rfl⟩
      have HKV : Hid (∀ x, (ks.any fun y => decide (y = x)) = metV ds ss x) := Lib.hid (by rw [← hks]; exact fun x => metV_list ds ss x)
      have HKO : Hid (∀ s ∈ ks, -9223372036854775808 ≤ s ∧ s ≤ 9223372036854775807) := Lib.hid (by rw [← hks]; intro s hs; obtain ⟨t, _, rfl⟩ := List.mem_map.1 hs; exact valI_ok HOK.out t)
      have hown2 := hown.out
      rw [List.take_of_length_le (Nat.le_refl _), hks] at hown2
      obtain ⟨A5, c5, hv5⟩ := own_form hown2
      subst hv5
      have HKS := Lib.hid (si_of_own hown2 HKO.out)
      have HMO : Hid (∀ d ∈ mems ds, d.ok) := Lib.hid (mems_ok HOK.out)
      have hm12 := mems_12 HV.out
      have e1 := he.out
      have HD2 := Lib.hid (hd.out.call hbel.out.size)
      have HB2 := Lib.hid hbel.out
      clear hown2 hown he hd hss hbel hgw hall hks
      rename World => wo
      obtain ⟨G, hG⟩ : ∃ G, wo.heap.size = G := ⟨_, rfl⟩
      have hb9 : Below wo.heap.size wo (wo.alloc (.cells #[] 9)) := (Below.refl _ _).alloc (Nat.le_refl _) _
      have e9 := keep1 hb9 e1
      have HD9 := Lib.hid ((HD2.out.below hb9).call hb9.size)
      have HB9 : Hid (Below w.heap.size w (wo.alloc (.cells #[] 9))) := Lib.hid (HB2.out.trans (hb9.mono HB2.out.size))
      have HK9 : Hid (SI (wo.alloc (.cells #[] 9)) G A5 ks.length c5 ks) := Lib.hid (by rw [← hG]; exact HKS.out.below hb9)
      have HO9 : Hid ((wo.alloc (.cells #[] 9)).ownsRow G 9 1 (.slice (some ⟨G, 0, none⟩) 0 0) ((missD ds ss 0).map (·.name)).length (flatS ((missD ds ss 0).map (·.name)))) := Lib.hid (by
        rw [← hG]
        unfold missD
        exact World.ownsRow_made wo #[] 0 (Nat.le_refl _) (by unfold maxLen; omega) rfl)
      have HG9 : Hid (G ≤ (wo.alloc (.cells #[] 9)).heap.size) := Lib.hid (by rw [← hG]; simp)
      have hwG : w.heap.size ≤ G := by rw [← hG]; exact HB2.out.size
      clear hb9 HB2 HD2 HKS e1
      go_wp2_with fail
      generalize (wo.alloc (.cells #[] 9)) = w9 at *
      clear hG
      refine (members_any ds _ _ _ _ HD9.out hn).mono ?_
      rintro e w3 ⟨A3, c3, rfl, ho, hb⟩
      have HDM : Hid (w3.ownsRow G 37 2 (.slice A3 (mems ds).length c3) (mems ds).length (flat (mems ds))) := Lib.hid (own_base ho HG9.out)
      have HO3 := Lib.hid (own_below HO9.out hb)
      have HK3 := Lib.hid (HK9.out.below' hb HG9.out)
      have HB3 : Hid (Below w.heap.size w w3) := Lib.hid (HB9.out.trans (hb.mono HB9.out.size))
      have HG3 : Hid (G ≤ w3.heap.size) := Lib.hid (Nat.le_trans HG9.out hb.size)
      clear ho hb HD9 HB9 HK9 HO9 HG9 e9
      go_wp2
      go_loopw [8, 10] (fun o i wr => ∃ (j : Nat), j ≤ (mems ds).length ∧ i = .int .i64 j ∧ Hid (wr.ownsRow G 9 1 o ((missD ds ss j).map (·.name)).length (flatS ((missD ds ss j).map (·.name)))) ∧ Hid (wr.ownsRow G 37 2 (.slice A3 (mems ds).length c3) (mems ds).length (flat (mems ds))) ∧ Hid (SI wr G A5 ks.length c5 ks) ∧ Hid (Below w.heap.size w wr) ∧ Hid (G ≤ wr.heap.size)) (fun _ i _ => (mems ds).length - (intOf i).toNat)
      case atStart => exact ⟨0, Nat.zero_le _, rfl, HO3, HDM, HK3, HB3, HG3⟩
      case round =>
        clear HO3 HDM HK3 HB3 HG3
        obtain ⟨j, hj, rfl, hown, hdm, hki, hbel, hgw⟩ := hrel
        by_cases hlt : j < (mems ds).length
        · have HSD := Lib.hid (sd_of_own hdm.out HMO.out)
          obtain ⟨bb, o, hA, hbb, d1, d2⟩ := HSD.out.at_ hlt
          subst hA
          have hi1 : (j : Int) < ((mems ds).length : Int) := by omega
          have HT := Lib.hid (missD_succ ds ss j hlt)
          have HL := Lib.hid (missD_len ds ss j)
          obtain ⟨d, hd⟩ : ∃ d, (mems ds)[j] = d := ⟨_, rfl⟩
          rw [hd] at d1 d2 HT
          obtain ⟨u, hu⟩ : ∃ u, metV ds ss d.val = u := ⟨_, rfl⟩
          have HU := Lib.hid hu
          have HKU : Hid ((ks.any fun y => decide (y = d.val)) = u) := Lib.hid (by rw [HKV.out]; exact hu)
          clear hu hd HSD
          go_wp2_with fail
          refine (hasInt_v ks d.val _ _ _ _ (hki.out.call hgw.out) HKU.out).mono ?_
          rintro e w4 ⟨rfl, hb⟩
          have HO4 := Lib.hid (own_below hown.out hb)
          have HD4 := Lib.hid (own_below hdm.out hb)
          have HK4 := Lib.hid (hki.out.below' hb hgw.out)
          have HB4 : Hid (Below w.heap.size w w4) := Lib.hid (hbel.out.trans (hb.mono hbel.out.size))
          have HG4 : Hid (G ≤ w4.heap.size) := Lib.hid (Nat.le_trans hgw.out hb.size)
          have d3 := keep1 hb d1
          clear hb d1 d2 hown hdm hki hbel hgw
          cases u
          · have HTT : Hid ((missD ds ss (j + 1)).map (·.name) = (missD ds ss j).map (·.name) ++ [d.name]) := Lib.hid (by rw [HT.out, HU.out]; simp)
            have HNE := Lib.hid (own_ne_type HD4.out HO4.out (by decide))
            go_wp2_with (at_builtin; refine wpList_app_Sg rfl _ _ rfl _ _ _ _ rfl HO4.out _ _ _ rfl (by first | rfl | simp) (by rw [List.length_map]; have := HL.out; omega) HG4.out ?_; intro v' w5 ho1 hb1 hg1; have HO1 := Lib.hid ho1; have HB5 := Lib.hid hb1; have HG5 := Lib.hid hg1; clear ho1 hb1 hg1)
            go_roundw
            case rel => exact ⟨j + 1, by omega, by go_num, Lib.hid (by rw [HTT.out, List.length_append]; simpa [flatS] using HO1.out), Lib.hid (HD4.out.kept HG5.out HNE.out), Lib.hid (HK4.out.below HB5.out), Lib.hid (HB4.out.trans (HB5.out.mono hwG)), Lib.hid (Nat.le_trans HG4.out HB5.out.size)⟩
            case measure => simp [intOf]; omega
          · have HTT : Hid (missD ds ss (j + 1) = missD ds ss j) := Lib.hid (by rw [HT.out, HU.out]; simp)
            go_wp2
            go_roundw
            case rel => exact ⟨j + 1, by omega, by go_num, Lib.hid (by rw [HTT.out]; exact HO4.out), HD4, HK4, HB4, HG4⟩
            case measure => simp [intOf]; omega
        · obtain rfl : j = (mems ds).length := by omega
          go_wp2
          go_ret
          obtain ⟨A', c', hv⟩ := own_form hown.out
          subst hv
          exact ⟨A', c', by rw [HM.out]; first | done | rfl, by rw [HM.out]; exact own_base hown.out hwG, hbel.out⟩
end Go.Proofs.Ytbkfagncoekbkaa
