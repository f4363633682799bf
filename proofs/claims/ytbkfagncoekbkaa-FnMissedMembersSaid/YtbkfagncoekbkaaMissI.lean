import Derived.Test.YtbkfagncoekbkaaMissP
namespace Go.Proofs.Ytbkfagncoekbkaa
open Go.RowKit Go.Maps
set_option linter.unusedVariables false
set_option maxRecDepth 100000

set_option maxHeartbeats 8000000 in
theorem implMiss_any (ds : List D) (ss : List ByteArray) (A : Option Addr) (n c : Nat) (w : World) (hr : SD w w.heap.size A n c ds) (As : Option Addr) (q cs : Nat) (hs : SS w w.heap.size As q cs ss) (hn : n ≤ 1048576) :
    Calls Try.prog 45 #[.agg #[.slice A n c], .slice As q cs] w (StrsP (mMissM ds ss) w) := by
  have hl := hs.max
  have hl2 := hs.cap
  unfold maxLen at hl
  obtain rfl := hs.len
  have h0 : Below w.heap.size w ((w.alloc (.cells #[.slice A n c] 58)).alloc (.cells #[.bool false, .bool false, .bool false, .bool false, .bool false, .bool false, .bool false, .bool false, .bool false, .bool false, .bool false, .bool false] 119)) := ((Below.refl _ _).alloc (Nat.le_refl _) _).alloc (by simp) _
  have HE0 : Hid (((w.alloc (.cells #[.slice A n c] 58)).alloc (.cells #[.bool false, .bool false, .bool false, .bool false, .bool false, .bool false, .bool false, .bool false, .bool false, .bool false, .bool false, .bool false] 119)).cell? ⟨w.heap.size, 0, none⟩ = some (.slice A n c)) := Lib.hid (keep1 ((Below.refl _ _).alloc (Nat.le_refl _) _) (by simp [go_sem]))
  have HD0 : Hid (SD ((w.alloc (.cells #[.slice A n c] 58)).alloc (.cells #[.bool false, .bool false, .bool false, .bool false, .bool false, .bool false, .bool false, .bool false, .bool false, .bool false, .bool false, .bool false] 119)) w.heap.size A n c ds) := Lib.hid (hr.below h0)
  have HS0 : Hid (SS ((w.alloc (.cells #[.slice A n c] 58)).alloc (.cells #[.bool false, .bool false, .bool false, .bool false, .bool false, .bool false, .bool false, .bool false, .bool false, .bool false, .bool false, .bool false] 119)) w.heap.size As ss.length cs ss) := Lib.hid (hs.below h0)
  have HC0 : Hid (BC ((w.alloc (.cells #[.slice A n c] 58)).alloc (.cells #[.bool false, .bool false, .bool false, .bool false, .bool false, .bool false, .bool false, .bool false, .bool false, .bool false, .bool false, .bool false] 119)) (w.heap.size + 1) (metR ds (ss.take 0))) := Lib.hid (by have := bc_new (w.alloc (.cells #[.slice A n c] 58)); simp only [World.size_alloc] at this; exact this)
  have HB0 := Lib.hid h0
  have HOK := Lib.hid hr.ok
  clear hr hs h0
  have e0 := HE0.out
  go_enter Try.func45, Try.ntmps45
  go_wp2
  generalize ((w.alloc (.cells #[.slice A n c] 58)).alloc (.cells #[.bool false, .bool false, .bool false, .bool false, .bool false, .bool false, .bool false, .bool false, .bool false, .bool false, .bool false, .bool false] 119)) = w0 at *
  clear e0
  go_loopw [14] (fun i wr => ∃ (k : Nat), k ≤ ss.length ∧ i = .int .i64 k ∧ Hid (BC wr (w.heap.size + 1) (metR ds (ss.take k))) ∧ Hid (wr.cell? ⟨w.heap.size, 0, none⟩ = some (.slice A n c)) ∧ Hid (SD wr w.heap.size A n c ds) ∧ Hid (SS wr w.heap.size As ss.length cs ss) ∧ Hid (Below w.heap.size w wr) ∧ Hid (k = 0 ∨ vEnum ds = true) ∧ Hid (∀ l (h : l < ss.length), l < k → 0 ≤ fidx (isNm ss[l]) ds)) (fun i _ => ss.length - (intOf i).toNat)
  case atStart => exact ⟨0, Nat.zero_le _, rfl, HC0, HE0, HD0, HS0, HB0, Lib.hid (.inl rfl), Lib.hid (fun l hl h => by omega)⟩
  case round =>
    clear HC0 HE0 HD0 HS0 HB0
    obtain ⟨k, hk, rfl, hc, he, hd, hss, hbel, hve, hall⟩ := hrel
    by_cases hlt : k < ss.length
    · obtain ⟨bb, o, hA, hbb, d1⟩ := (hss.out.call hbel.out.size).at_ hlt
      subst hA
      have hi1 : (k : Int) < (ss.length : Int) := by omega
      have e1 := he.out
      have HSD := Lib.hid (hd.out.call hbel.out.size)
      obtain ⟨v, hv⟩ : ∃ v, vEnum ds = v := ⟨_, rfl⟩
      obtain ⟨x, hx⟩ : ∃ x, fidx (isNm ss[k]) ds = x := ⟨_, rfl⟩
      by_cases hno : v = false ∨ x < 0
      · have HM : Hid (mMissM ds ss = []) := Lib.hid (by
          unfold mMissM
          refine if_no ?_
          unfold mMissOk
          rcases hno with h | h
          · rw [hv, h]; rfl
          · rw [allN_false hlt (by rw [hx]; exact h), Bool.and_false])
        have HV := Lib.hid hv
        have HX := Lib.hid hx
        have HNO := Lib.hid hno
        clear hv hx hno
        go_wp2_with fail
        refine (implRankOf_no ds ss[k] _ _ _ _ HSD.out HV.out HX.out HNO.out).mono ?_
        rintro e w1 ⟨rfl, hb⟩
        have HB1 : Hid (Below w.heap.size w w1) := Lib.hid (hbel.out.trans (hb.mono hbel.out.size))
        clear hb
        go_wp2
        go_ret
        exact ⟨none, 0, by rw [HM.out]; rfl, by rw [HM.out]; exact World.ownsRow_nil _ _ _ _, HB1.out⟩
      · have hv2 : vEnum ds = true := by
          cases v
          · exact absurd (.inl rfl) hno
          · exact hv
        have hx0 : 0 ≤ x := by
          by_cases h : x < 0
          · exact absurd (.inr h) hno
          · omega
        rcases fidx_cases (isNm ss[k]) ds with ⟨h1, _⟩ | ⟨j, hj, h1, _, _⟩
        · omega
        obtain ⟨r, hr, hr2⟩ := rank_in j hj
        have hr12 : r < 12 := by have := mems_12 hv2; omega
        have HVAL := Lib.hid (valI_at hj h1)
        have HRK : Hid (fidx (isVal (valI ds ss[k])) (mems ds) = (r : Int)) := Lib.hid (by rw [HVAL.out]; exact hr2)
        have HX := Lib.hid h1
        have HV2 := Lib.hid hv2
        have HR2 := Lib.hid hr2
        have HSN := Lib.hid (metR_snoc ds ss k hlt)
        have hri : (r : Int) < 12 := by omega
        clear hv hx hno h1 hr2 hv2 hx0 hr
        go_wp2_with fail
        refine (implRankOf_yes ds ss[k] _ _ _ _ HSD.out HV2.out j hj HX.out).mono ?_
        rw [HR2.out]
        rintro e w1 ⟨rfl, hb⟩
        have HB1 : Hid (Below w.heap.size w w1) := Lib.hid (hbel.out.trans (hb.mono hbel.out.size))
        have HC1 := Lib.hid (hc.out.below hb)
        have HE1 := Lib.hid (keep1 hb he.out)
        have HD1 := Lib.hid (hd.out.below' hb hbel.out.size)
        have HS1 := Lib.hid (hss.out.below' hb hbel.out.size)
        have br := HC1.out.c r hr12
        have fr := HC1.out.f r hr12
        clear hb hc he hd hss hbel HSD d1 e1
        go_wp2
        go_roundw
        case rel => exact ⟨k + 1, by omega, by go_num, Lib.hid (HC1.out.set hr12 (fun l hl => by
          rw [HSN.out l, HRK.out]
          by_cases e : l = r
          · subst e; simp
          · rw [if_neg e, decide_eq_false (by omega), Bool.or_false])), Lib.hid ((World.cell?_setCell_other _ _ _ _ (fun e => by injection e with e1; omega)).trans HE1.out), Lib.hid (HD1.out.keep fun r => Rd.setCell r (by simp) _), Lib.hid (HS1.out.keep fun r => Rd.setCell r (by simp) _), Lib.hid (HB1.out.setCell (by simp) _), Lib.hid (.inr HV2.out), Lib.hid (fun l hl h => by
          by_cases e : l = k
          · subst e; rw [HX.out]; omega
          · exact hall.out l hl (by omega))⟩
        case measure => simp [intOf]; omega
    · obtain rfl : k = ss.length := by omega
      have e1 := he.out
      have HSD := Lib.hid (hd.out.call hbel.out.size)
      have HCC : Hid (BC wr (w.heap.size + 1) (metR ds ss)) := Lib.hid (by have h := hc.out; rwa [List.take_of_length_le (Nat.le_refl _)] at h)
      have HALL : Hid (allN ds ss = true) := Lib.hid (allN_true (fun i hi => hall.out i hi hi))
      have HBB := Lib.hid hbel.out
      have hg1 : w.heap.size + 1 < wr.heap.size := HCC.out.lt
      obtain ⟨v, hv⟩ : ∃ v, vEnum ds = v := ⟨_, rfl⟩
      have HV := Lib.hid hv
      obtain ⟨ns, hns⟩ : ∃ ns, mMembers ds = ns := ⟨_, rfl⟩
      have HNS := Lib.hid hns
      have HMI : Hid (∀ (A : Option Addr) (n c : Nat) (w : World), SD w w.heap.size A n c ds → Calls Try.prog 48 #[.agg #[.slice A n c]] w (StrsP ns w)) := Lib.hid (by rw [← hns]; exact fun A n c w h => implMembersOf_any ds _ _ _ _ h)
      have HNO : Hid (∀ s ∈ ns, s.size ≤ maxLen) := Lib.hid (by rw [← hns]; exact mMembers_ok HOK.out)
      have hnl : ns.length ≤ 12 := by
        rw [← hns]; unfold mMembers
        by_cases h : vEnum ds = true
        · rw [if_pos h, List.length_map]; exact mems_12 h
        · rw [if_neg h]; exact Nat.zero_le _
      clear hv hns hc he hd hss hbel hve hall
      rename World => wo
      go_wp2_with fail
      refine (HMI.out _ _ _ _ HSD.out).mono ?_
      rintro e w2 ⟨A2, c2, rfl, ho, hb⟩
      have HSN := Lib.hid (ss_of_own ho HNO.out)
      have HC2 := Lib.hid (HCC.out.below hb)
      have HB2 : Hid (Below w.heap.size w w2) := Lib.hid (HBB.out.trans (hb.mono HBB.out.size))
      clear ho hb HCC HBB HSD e1
      obtain ⟨G, hG⟩ : ∃ G, w2.heap.size = G := ⟨_, rfl⟩
      have hgG : w.heap.size + 1 < G := by rw [← hG]; exact HC2.out.lt
      have hwG : w.heap.size ≤ G := by omega
      have HSG : Hid (SS w2 G A2 ns.length c2 ns) := Lib.hid (by rw [← hG]; exact HSN.out)
      have HGW : Hid (G ≤ w2.heap.size) := Lib.hid (by omega)
      clear HSN hG hg1
      go_wp2
      go_loopw [9, 29] (fun o i wr => ∃ (j : Nat), j ≤ ns.length ∧ i = .int .i64 j ∧ Hid (wr.ownsRow G 9 1 o ((missD ds ss j).map (·.name)).length (flatS ((missD ds ss j).map (·.name)))) ∧ Hid (BC wr (w.heap.size + 1) (metR ds ss)) ∧ Hid (SS wr G A2 ns.length c2 ns) ∧ Hid (Below w.heap.size w wr) ∧ Hid (G ≤ wr.heap.size)) (fun _ i _ => ns.length - (intOf i).toNat)
      case atStart => exact ⟨0, Nat.zero_le _, rfl, Lib.hid (by unfold missD; simp; exact World.ownsRow_nil _ _ _ _), HC2, HSG, HB2, HGW⟩
      case round =>
        clear HC2 HSG HB2 HGW
        obtain ⟨j, hj, rfl, hown, hc, hsn, hbel, hgw⟩ := hrel
        by_cases hlt : j < ns.length
        · obtain ⟨bb, o, hA, hbb, d1⟩ := hsn.out.at_ hlt
          subst hA
          have hv : v = true := by
            cases v
            · exfalso
              have : ns = [] := by rw [← HNS.out]; unfold mMembers; rw [HV.out]; rfl
              subst this; simp at hlt
            · rfl
          subst hv
          have hme : ns = (mems ds).map (·.name) := by rw [← HNS.out]; unfold mMembers; rw [if_pos HV.out]
          have hjm : j < (mems ds).length := by rw [hme, List.length_map] at hlt; exact hlt
          have hnm : ns[j] = (mems ds)[j].name := by simp only [hme, List.getElem_map]
          have hi1 : (j : Int) < (ns.length : Int) := by omega
          have hj12 : j < 12 := by omega
          have hji : (j : Int) < 12 := by omega
          have bj := hc.out.c j hj12
          have HT := Lib.hid (missD_succ ds ss j hjm)
          have HL := Lib.hid (missD_len ds ss j)
          obtain ⟨u, hu⟩ : ∃ u, metR ds ss j = u := ⟨_, rfl⟩
          rw [hu] at bj
          have HU : Hid (metV ds ss (mems ds)[j].val = u) := Lib.hid (by rw [← metR_is ss hjm]; exact hu)
          have HNM := Lib.hid hnm
          clear hu hme hnm
          cases u
          · have HTT : Hid ((missD ds ss (j + 1)).map (·.name) = (missD ds ss j).map (·.name) ++ [ns[j]]) := Lib.hid (by rw [HT.out, HU.out, HNM.out]; simp)
            go_wp2_with (at_builtin; refine wpList_app_S rfl _ _ rfl _ _ _ _ rfl hown.out _ _ _ rfl (by first | rfl | simp) (by rw [List.length_map]; have := HL.out; omega) hgw.out ?_; intro v' w4 ho1 hb1; have HO1 := Lib.hid ho1; have HB4 := Lib.hid hb1; clear ho1 hb1)
            go_roundw
            case rel => exact ⟨j + 1, by omega, by go_num, Lib.hid (by rw [HTT.out, List.length_append]; simpa [flatS] using HO1.out), Lib.hid (hc.out.low HB4.out (by omega)), Lib.hid (hsn.out.below HB4.out), Lib.hid (hbel.out.trans (HB4.out.mono hwG)), Lib.hid (Nat.le_trans hgw.out HB4.out.size)⟩
            case measure => simp [intOf]; omega
          · have HTT : Hid (missD ds ss (j + 1) = missD ds ss j) := Lib.hid (by rw [HT.out, HU.out]; simp)
            go_wp2
            go_roundw
            case rel => exact ⟨j + 1, by omega, by go_num, Lib.hid (by rw [HTT.out]; exact hown.out), hc, hsn, hbel, hgw⟩
            case measure => simp [intOf]; omega
        · obtain rfl : j = ns.length := by omega
          have HM : Hid (mMissM ds ss = (missD ds ss ns.length).map (·.name)) := Lib.hid (by
            unfold mMissM mMissOk
            rw [HALL.out, Bool.and_true]
            cases v
            · have : ns = [] := by rw [← HNS.out]; unfold mMembers; rw [HV.out]; rfl
              rw [HV.out, this]; unfold missD; simp
            · have : ns.length = (mems ds).length := by rw [← HNS.out]; unfold mMembers; rw [if_pos HV.out, List.length_map]
              rw [HV.out, this]; rfl)
          go_wp2
          go_ret
          obtain ⟨A', c', hv⟩ := own_form hown.out
          subst hv
          exact ⟨A', c', by rw [HM.out]; first | done | rfl, by rw [HM.out]; exact own_base hown.out hwG, hbel.out⟩
end Go.Proofs.Ytbkfagncoekbkaa
