import Derived.Test.YtboehlffbibgmaaDoorRdT
import Derived.Test.YtboehlffbibgmaaDoorShvI
import Derived.Test.YtboehlffbibgmaaDoorShvA
import Derived.Test.YtboehlffbibgmaaDoorShvB
namespace Go.Proofs.YtboehlffbibgmaaDoor
open Go.RowKit
set_option linter.unusedVariables false
set_option linter.unusedSimpArgs false
set_option maxRecDepth 100000

/-! ### what the library's readers look up -/
structure RT (w : World) (B : Nat) : Prop where
  p10 : P10 w
  syn : ∃ tp p, w.cell? ⟨4, 0, none⟩ = some (.iface tp p)
  rng : ∃ tp p, w.cell? ⟨5, 0, none⟩ = some (.iface tp p)
  mln : ∃ m : Int, w.cell? ⟨0, 0, none⟩ = some (.int .i64 m)
  lp : p10G < B
  ls : 4 < B
  lr : 5 < B
  lm : 0 < B
theorem RT.below {w w' : World} {B : Nat} (h : RT w B) (hb : Below B w w') : RT w' B := by
  obtain ⟨tp, p, h1⟩ := h.syn
  obtain ⟨tq, q, h2⟩ := h.rng
  obtain ⟨m, h3⟩ := h.mln
  exact ⟨h.p10.below hb h.lp, ⟨tp, p, (hb.cell (p := ⟨4, 0, none⟩) h.ls).trans h1⟩, ⟨tq, q, (hb.cell (p := ⟨5, 0, none⟩) h.lr).trans h2⟩, ⟨m, (hb.cell (p := ⟨0, 0, none⟩) h.lm).trans h3⟩, h.lp, h.ls, h.lr, h.lm⟩
theorem RT.more {w : World} {B B' : Nat} (h : RT w B) (hB : B ≤ B') : RT w B' :=
  ⟨h.p10, h.syn, h.rng, h.mln, Nat.lt_of_lt_of_le h.lp hB, Nat.lt_of_lt_of_le h.ls hB, Nat.lt_of_lt_of_le h.lr hB, Nat.lt_of_lt_of_le h.lm hB⟩
theorem RT.call {w w' : World} (h : RT w w.heap.size) (hb : Below w.heap.size w w') : RT w' w'.heap.size := (h.below hb).more hb.size

/-! ### strings.Split at one byte -/
theorem split_any (s : ByteArray) (c : UInt8) (w : World) (hs : s.size ≤ 1048576) (hT : RT w w.heap.size) :
    Calls Tryd.prog 37 #[.string s, .string ⟨#[c]⟩] w (StrsP (splitT c s) w) := by
  obtain ⟨m, hm⟩ := hT.mln
  refine (Tryd.strings_Split s ⟨#[c]⟩ m w (by omega) hm (Nat.le_refl 1)).mono ?_
  rintro e w' ⟨rfl, rfl⟩
  have hl := splitT_len c s
  rw [splitT_B, splitT_count]
  have h0 : Below w.heap.size w (w.alloc (.cells ((splitT c s).map Value.string).toArray 9)) := (Below.refl _ _).alloc (Nat.le_refl _) _
  refine ⟨some ⟨w.heap.size, 0, none⟩, (splitT c s).length, rfl, ?_, h0⟩
  have hz : (flatS (splitT c s)).length = (splitT c s).length := flatS_length _
  exact ⟨by rw [hz, Nat.mul_one], .inr ⟨w.heap.size, (splitT c s).length, ((splitT c s).map Value.string).toArray, rfl, Nat.le_refl _, heap_alloc_new w _, Nat.le_refl _, by unfold maxLen; omega, by simp, by simp [flatS, List.take_of_length_le]⟩⟩

/-! ### the program's reading of a number -/
theorem num_case (s : ByteArray) : (numOf s = none ∧ mRdN s = -1) ∨ (∃ v : Int, numOf s = some v ∧ v < 0 ∧ mRdN s = -1) ∨ (∃ v : Int, numOf s = some v ∧ 4095 < v ∧ ¬ (0 ≤ mRdN s ∧ mRdN s ≤ 4095)) ∨ (∃ n : Nat, numOf s = some (n : Int) ∧ n ≤ 4095 ∧ mRdN s = n) := by
  rcases mRdN_cases s with h | ⟨n, hn, _, h⟩
  · cases e : numOf s with
    | none => exact .inl ⟨rfl, h⟩
    | some v =>
      by_cases h1 : v < 0
      · exact .inr (.inl ⟨v, rfl, h1, h⟩)
      · by_cases h2 : 4095 < v
        · exact .inr (.inr (.inl ⟨v, rfl, h2, by omega⟩))
        · obtain ⟨n, rfl⟩ : ∃ n : Nat, v = n := ⟨v.toNat, by omega⟩
          have := (numOf_iff s n (by omega)).1 e
          omega
  · have e := (numOf_iff s n hn).2 h
    by_cases h2 : n ≤ 4095
    · exact .inr (.inr (.inr ⟨n, e, h2, h⟩))
    · exact .inr (.inr (.inl ⟨n, e, by omega, by omega⟩))
set_option maxHeartbeats 4000000 in
theorem implRdN_some (s : ByteArray) (w : World) (hs : s.size ≤ 1048576) (hT : RT w w.heap.size) {v : Int} (hv : numOf s = some v) :
    Calls Tryd.prog 79 #[.string s] w fun e w' => e = .returned (.tuple #[.int .i64 v, .bool true]) ∧ Below w.heap.size w w' := by
  obtain ⟨hsv, hb0, hb1⟩ := numOf_some hv
  have hA : Lib.atoiAll s.data.toList = .ok v := by
    unfold numOf at hv
    split at hv
    · rename_i u hu
      split at hv
      · cases hv; exact hu
      · cases hv
    · cases hv
  have e2 : ((itoaB v).toList == s.toList) = true := nm_true hsv.symm
  have HAT := Lib.hid (Tryd.strconv_Atoi_ok s (by omega) v hA w)
  have HIT := Lib.hid (fun w h => itoa_v v hb0 hb1 w h)
  have HT := Lib.hid hT
  generalize itoaB v = t at *
  clear hv hsv hA hT
  go_enter Tryd.func79, Tryd.ntmps79
  go_wp2_with fail
  refine HAT.out.mono ?_
  rintro e w1 ⟨rfl, hw⟩
  have hb : Below w.heap.size w w1 := by
    rcases hw with rfl | ⟨t, rfl⟩
    · exact Below.refl _ _
    · exact Lib.bytesWorld_below _ _ _
  have HB1 := Lib.hid hb
  clear hw hb HAT
  go_wp2_with (go_at_call 51; refine (HIT.out _ (HT.out.below HB1.out).p10).mono ?_; rintro e w2 ⟨rfl, hb⟩; have HB2 : Hid (Below w.heap.size w w2) := Lib.hid (HB1.out.trans (hb.mono HB1.out.size)); clear hb)
  go_ret2
  exact ⟨rfl, HB2.out⟩
set_option maxHeartbeats 4000000 in
theorem implRdN_none (s : ByteArray) (w : World) (hs : s.size ≤ 1048576) (hT : RT w w.heap.size) (hv : numOf s = none) :
    Calls Tryd.prog 79 #[.string s] w fun e w' => e = .returned (.tuple #[.int .i64 0, .bool false]) ∧ Below w.heap.size w w' := by
  have HT := Lib.hid hT
  cases hA : Lib.atoiAll s.data.toList with
  | ok v =>
    obtain ⟨hb0, hb1⟩ := Lib.atoiAll_bounds hA
    have hne : itoaB v ≠ s := by
      intro e
      unfold numOf at hv
      rw [hA] at hv
      simp only at hv
      rw [if_pos e] at hv
      cases hv
    have e2 : ((itoaB v).toList == s.toList) = false := nm_false hne
    have HAT := Lib.hid (Tryd.strconv_Atoi_ok s (by omega) v hA w)
    have HIT := Lib.hid (fun w h => itoa_v v hb0 hb1 w h)
    generalize itoaB v = t at *
    clear hv hA hT hne
    go_enter Tryd.func79, Tryd.ntmps79
    go_wp2_with fail
    refine HAT.out.mono ?_
    rintro e w1 ⟨rfl, hw⟩
    have hb : Below w.heap.size w w1 := by
      rcases hw with rfl | ⟨t, rfl⟩
      · exact Below.refl _ _
      · exact Lib.bytesWorld_below _ _ _
    have HB1 := Lib.hid hb
    clear hw hb HAT
    go_wp2_with (go_at_call 51; refine (HIT.out _ (HT.out.below HB1.out).p10).mono ?_; rintro e w2 ⟨rfl, hb⟩; have HB2 : Hid (Below w.heap.size w w2) := Lib.hid (HB1.out.trans (hb.mono HB1.out.size)); clear hb)
    go_ret2
    exact ⟨rfl, HB2.out⟩
  | range =>
    obtain ⟨tp, p, hsy⟩ := hT.rng
    have HAT := Lib.hid (Tryd.strconv_Atoi_range s (by omega) hA (.iface tp p) w hsy (.inr ⟨tp, p, rfl⟩))
    obtain ⟨sb0, sb1⟩ := Lib.atoiSat_bounds s.data.toList
    generalize Lib.atoiSat s.data.toList = sat at *
    clear hv hA hT hsy
    go_enter Tryd.func79, Tryd.ntmps79
    go_wp2_with fail
    refine HAT.out.mono ?_
    rintro e w1 ⟨N, rfl, _, _, hb⟩
    have HB1 := Lib.hid hb
    clear hb HAT
    go_wp2
    go_ret2
    exact ⟨rfl, HB1.out⟩
  | _ =>
    obtain ⟨tp, p, hsy⟩ := hT.syn
    have HAT := Lib.hid (Tryd.strconv_Atoi_syntax s (by omega) hA (.iface tp p) w hsy (.inr ⟨tp, p, rfl⟩))
    clear hv hA hT hsy
    go_enter Tryd.func79, Tryd.ntmps79
    go_wp2_with fail
    refine HAT.out.mono ?_
    rintro e w1 ⟨N, rfl, _, _, hb⟩
    have HB1 := Lib.hid hb
    clear hb HAT
    go_wp2
    go_ret2
    exact ⟨rfl, HB1.out⟩

/-! ### the program's reading of a word -/
set_option maxHeartbeats 4000000 in
theorem implWord_yes (ds : List D) (s : ByteArray) (A : Option Addr) (n c : Nat) (w : World) (hr : SD w w.heap.size A n c ds) (hs : s.size ≤ 1048576) (hT : RT w w.heap.size) {y : Nat} (hy : partV ds s = y) (hy4 : y ≤ 4095) :
    Calls Tryd.prog 38 #[.slice A n c, .string s] w fun e w' => e = .returned (.tuple #[.int .i64 y, .bool true]) ∧ Below w.heap.size w w' := by
  obtain rfl := hr.len
  have hl := hr.max
  have hl2 := hr.cap
  unfold maxLen at hl
  have HR := Lib.hid hr
  have HT := Lib.hid hT
  rcases fidx_cases (isNm s) ds with ⟨hx, _⟩ | ⟨k, hk, hx, hp, _⟩
  · have HX := Lib.hid hx
    have e1 := partV_num (ds := ds) (s := s) (by omega)
    have e2 := (numOf_iff s y (by omega)).2 (by omega)
    have HN := Lib.hid (fun w h => implRdN_some s w hs h e2)
    clear hx hr hT e1 e2 hy
    go_enter Tryd.func38, Tryd.ntmps38
    go_wp2_with fail
    refine (indexOfName_v ds s _ _ _ _ HR.out HX.out).mono ?_
    rintro e w1 ⟨rfl, hb⟩
    have HB1 := Lib.hid hb
    clear hb
    go_wp2_with fail
    refine (HN.out _ (HT.out.call HB1.out)).mono ?_
    rintro e w2 ⟨rfl, hb⟩
    have HB2 : Hid (Below w.heap.size w w2) := Lib.hid (HB1.out.trans (hb.mono HB1.out.size))
    clear hb
    go_wp2
    go_ret2
    exact ⟨rfl, HB2.out⟩
  · have HX := Lib.hid hx
    have hM := partV_name hk hx
    have hi1 : (k : Int) < (ds.length : Int) := by omega
    have hyv : ds[k].val = (y : Int) := by omega
    have HYV := Lib.hid hyv
    clear hx hr hp hM hT hy hyv
    go_enter Tryd.func38, Tryd.ntmps38
    go_wp2_with fail
    refine (indexOfName_v ds s _ _ _ _ HR.out HX.out).mono ?_
    rintro e w1 ⟨rfl, hb⟩
    have HB1 := Lib.hid hb
    obtain ⟨b, o, rfl, hbb, d1, d2⟩ := (HR.out.below hb).at_ hk
    rw [HYV.out] at d2
    clear hb
    go_wp2
    go_ret2
    exact ⟨rfl, HB1.out⟩
set_option maxHeartbeats 4000000 in
theorem implWord_no (ds : List D) (s : ByteArray) (A : Option Addr) (n c : Nat) (w : World) (hr : SD w w.heap.size A n c ds) (hin : ∀ d ∈ ds, inR d) (hs : s.size ≤ 1048576) (hT : RT w w.heap.size) (hy : ¬ (0 ≤ partV ds s ∧ partV ds s ≤ 4095)) :
    Calls Tryd.prog 38 #[.slice A n c, .string s] w fun e w' => e = .returned (.tuple #[.int .i64 0, .bool false]) ∧ Below w.heap.size w w' := by
  obtain rfl := hr.len
  have hl := hr.max
  have hl2 := hr.cap
  unfold maxLen at hl
  have HR := Lib.hid hr
  have HT := Lib.hid hT
  rcases fidx_cases (isNm s) ds with ⟨hx, _⟩ | ⟨k, hk, hx, hp, _⟩
  · have HX := Lib.hid hx
    have e1 := partV_num (ds := ds) (s := s) (by omega)
    rw [e1] at hy
    clear hx hr hT
    rcases num_case s with ⟨h1, _⟩ | ⟨v, h1, h2, _⟩ | ⟨v, h1, h2, _⟩ | ⟨v, h1, h2, h3⟩
    · have HN := Lib.hid (fun w h => implRdN_none s w hs h h1)
      clear h1 e1 hy
      go_enter Tryd.func38, Tryd.ntmps38
      go_wp2_with fail
      refine (indexOfName_v ds s _ _ _ _ HR.out HX.out).mono ?_
      rintro e w1 ⟨rfl, hb⟩
      have HB1 := Lib.hid hb
      clear hb
      go_wp2_with fail
      refine (HN.out _ (HT.out.call HB1.out)).mono ?_
      rintro e w2 ⟨rfl, hb⟩
      have HB2 : Hid (Below w.heap.size w w2) := Lib.hid (HB1.out.trans (hb.mono HB1.out.size))
      clear hb
      go_wp2
      go_ret2
      exact ⟨rfl, HB2.out⟩
    · have HN := Lib.hid (fun w h => implRdN_some s w hs h h1)
      clear h1 e1 hy
      go_enter Tryd.func38, Tryd.ntmps38
      go_wp2_with fail
      refine (indexOfName_v ds s _ _ _ _ HR.out HX.out).mono ?_
      rintro e w1 ⟨rfl, hb⟩
      have HB1 := Lib.hid hb
      clear hb
      go_wp2_with fail
      refine (HN.out _ (HT.out.call HB1.out)).mono ?_
      rintro e w2 ⟨rfl, hb⟩
      have HB2 : Hid (Below w.heap.size w w2) := Lib.hid (HB1.out.trans (hb.mono HB1.out.size))
      clear hb
      go_wp2
      go_ret2
      exact ⟨rfl, HB2.out⟩
    · have HN := Lib.hid (fun w h => implRdN_some s w hs h h1)
      have h3 : ¬ v < 0 := by omega
      clear h1 e1 hy
      go_enter Tryd.func38, Tryd.ntmps38
      go_wp2_with fail
      refine (indexOfName_v ds s _ _ _ _ HR.out HX.out).mono ?_
      rintro e w1 ⟨rfl, hb⟩
      have HB1 := Lib.hid hb
      clear hb
      go_wp2_with fail
      refine (HN.out _ (HT.out.call HB1.out)).mono ?_
      rintro e w2 ⟨rfl, hb⟩
      have HB2 : Hid (Below w.heap.size w w2) := Lib.hid (HB1.out.trans (hb.mono HB1.out.size))
      clear hb
      go_wp2
      go_ret2
      exact ⟨rfl, HB2.out⟩
    · exact absurd ⟨by omega, by omega⟩ hy
  · have hM := partV_name hk hx
    have := hin _ (List.getElem_mem hk)
    unfold inR at this
    exact absurd ⟨by omega, by omega⟩ hy

/-! ### the program's ReadValue -/
set_option maxHeartbeats 8000000 in
theorem implRead_v (ds : List D) (b : Int) (s : ByteArray) (A : Option Addr) (m c : Nat) (w : World) (hr : SD w w.heap.size A m c ds) (hn : m ≤ 1048576) (hs : s.size ≤ 1048576) (hT : RT w w.heap.size) {r : Int} {v : Bool} (hm : mRead ds b s = r) (hm2 : mReadOk ds b s = v) :
    Calls Tryd.prog 14 #[.agg #[.slice A m c, .int .i64 b], .string s] w fun e w' => e = .returned (.tuple #[.int .i64 r, .bool v]) ∧ Below w.heap.size w w' := by
  subst hm hm2
  have HF := Lib.hid (FB.start hr b)
  have HT := Lib.hid hT
  clear hr hT
  cases hv : vFlag ds b
  · have HV := Lib.hid hv
    have HM : Hid (mRead ds b s = 0 ∧ mReadOk ds b s = false) := Lib.hid (by unfold mRead mReadOk; rw [hv]; exact ⟨rfl, rfl⟩)
    clear hv
    go_enter Tryd.func14, Tryd.ntmps14
    go_wp2_with fail
    refine (classOf_no ds b _ _ _ _ HF.out.sd hn HV.out).mono ?_
    rintro e w1 ⟨rfl, hb⟩
    have HB1 := Lib.hid (HF.out.after hb)
    have hst := st_nilFunc
    clear hb
    go_wp2
    go_ret2
    exact ⟨by rw [HM.out.1, HM.out.2]; first | done | rfl, HB1.out.alloc HB1.out.size _⟩
  have HV := Lib.hid hv
  have HIN := Lib.hid (vFlag_in hv)
  have hwl := (splitT_len 124 s).1
  have HWS : Hid (∀ x ∈ splitT 124 s, x.size ≤ 1048576) := Lib.hid fun x hx => by have := splitT_size 124 s x hx; omega
  have HSP := Lib.hid (fun w (h : RT w w.heap.size) => split_any s 124 w hs h)
  unfold StrsP at HSP
  have HYES : Hid (∀ o : Nat, rdTo ds (splitT 124 s) 0 = some o → mRead ds b s = (if mIsV ds b (o : Int) then (o : Int) else 0) ∧ mReadOk ds b s = mIsV ds b (o : Int)) := Lib.hid fun o h => by
    unfold mRead mReadOk
    rw [hv, rdV_some h]
    cases mIsV ds b (o : Int)
    · exact ⟨rfl, rfl⟩
    · simp
  have HNO : Hid (rdTo ds (splitT 124 s) 0 = none → mRead ds b s = 0 ∧ mReadOk ds b s = false) := Lib.hid fun h => by
    unfold mRead mReadOk
    rw [hv, rdV_none h]
    exact ⟨rfl, rfl⟩
  clear hv
  obtain ⟨fid, hfid⟩ := bdF_form b
  obtain ⟨wh, hwh⟩ : ∃ wh, mWhole ds b = wh := ⟨_, rfl⟩
  have HFID := Lib.hid hfid
  have HWH := Lib.hid hwh
  clear hfid hwh
  generalize splitT 124 s = ws at *
  generalize mRead ds b s = r at *
  generalize mReadOk ds b s = vv at *
  have HOKS : Hid (∀ x ∈ ws, x.size ≤ maxLen) := Lib.hid fun x hx => by have := HWS.out x hx; unfold maxLen; omega
  go_enter Tryd.func14, Tryd.ntmps14
  go_wp2_with fail
  refine (classOf_x ds b _ _ _ _ HF.out.sd HV.out HFID.out HWH.out).mono ?_
  rintro e w1 ⟨rfl, hb⟩
  have HF1 := Lib.hid (HF.out.call hb)
  have HK := Lib.hid (FC.start HF1.out fid wh)
  have HG := Lib.hid (HF1.out.alloc (.cells #[.slice A m c, .func (.func fid) #[] #[], .int .i64 wh] 65))
  have hst := st_func
  clear hb HF HF1
  go_wp2_with fail
  generalize hW : (w1.alloc (.cells #[.slice A m c, .func (.func fid) #[] #[], .int .i64 wh] 65)) = w2 at *
  generalize hG : w1.heap.size = G at *
  clear hW hG
  refine (HSP.out _ (HT.out.call HG.out.bel)).mono ?_
  rintro e w3 ⟨A3, c3, rfl, ho, hb⟩
  have HF3 := Lib.hid (HG.out.call hb)
  have HK3 := Lib.hid (HK.out.call hb)
  have HS3 := Lib.hid (ss_of_own ho HOKS.out)
  clear ho hb HG HK HSP
  go_wp2_with fail
  go_loopw [8, 23] (fun o i wr => ∃ (k x : Nat), k ≤ ws.length ∧ x < 4096 ∧ i = .int .i64 k ∧ o = .int .i64 x ∧ Hid (rdTo ds ws 0 = rdTo ds (ws.drop k) x) ∧ Hid (FB w wr w.heap.size A m c ds b) ∧ Hid (FC w wr G A m c ds fid wh) ∧ Hid (SS wr wr.heap.size A3 ws.length c3 ws)) (fun _ i _ => ws.length - (intOf i).toNat)
  case atStart => exact ⟨0, 0, Nat.zero_le _, by omega, rfl, rfl, Lib.hid rfl, HF3, HK3, HS3⟩
  case round =>
    clear HF3 HK3 HS3
    obtain ⟨k, x, hk, hx4, rfl, rfl, hst2, hf, hc, hss⟩ := hrel
    have c0 := hc.out.c0
    by_cases hlt : k < ws.length
    · obtain ⟨bb, o, hA, hbb, d1⟩ := hss.out.at_ hlt
      subst hA
      have hi1 : (k : Int) < (ws.length : Int) := by omega
      have hi0 : (0 : Int) ≤ (k : Int) := by omega
      have hz := HWS.out _ (List.getElem_mem hlt)
      have hst3 := hst2.out
      rw [List.drop_eq_getElem_cons hlt, rdTo] at hst3
      have HST := Lib.hid hst3
      clear hst3 hst2
      generalize ws[k] = u at *
      have HTT := Lib.hid (HT.out.call hf.out.bel)
      by_cases hy : 0 ≤ partV ds u ∧ partV ds u ≤ 4095
      · obtain ⟨y, hyn⟩ : ∃ y : Nat, partV ds u = y := ⟨(partV ds u).toNat, by omega⟩
        have hy4 : y ≤ 4095 := by omega
        have hst4 := HST.out
        rw [if_pos hy, hyn, Int.toNat_natCast] at hst4
        obtain ⟨z, hz2⟩ : ∃ z, x ||| y = z := ⟨_, rfl⟩
        have hz4 : z < 4096 := by rw [← hz2]; exact or_lt hx4 (by omega)
        rw [hz2] at hst4
        have HST4 := Lib.hid hst4
        have HZ := Lib.hid hz2
        have HYN := Lib.hid hyn
        clear hst4 hz2 hyn hy HST
        go_wp2_with fail
        refine (implWord_yes ds u _ _ _ _ hc.out.sd hz HTT.out HYN.out hy4).mono ?_
        rintro e w5 ⟨rfl, hb⟩
        have hf5 := Lib.hid (hf.out.call hb)
        have hc5 := Lib.hid (hc.out.call hb)
        have hs5 := Lib.hid ((hss.out.below hb).call hb.size)
        clear hb c0 d1 hf hc hss HTT
        go_wp2_with (go_at_call 39; refine (bsOr_v x y _ hx4 (by omega) HZ.out).mono ?_; rintro e w' ⟨rfl, rfl⟩)
        go_roundw
        case rel => exact ⟨k + 1, z, by omega, hz4, by go_num, rfl, HST4, hf5, hc5, hs5⟩
        case measure => simp [intOf]; omega
      · have hst4 := HST.out
        rw [if_neg hy] at hst4
        have HM := Lib.hid (HNO.out hst4)
        have HWD := Lib.hid (implWord_no ds u _ _ _ _ hc.out.sd HIN.out hz HTT.out hy)
        clear hst4 hy HST
        go_wp2_with fail
        refine HWD.out.mono ?_
        rintro e w5 ⟨rfl, hb⟩
        have HB5 := Lib.hid (hf.out.after hb)
        clear hb c0 d1 hf hc hss HTT HWD
        go_wp2
        go_ret2
        exact ⟨by rw [HM.out.1, HM.out.2]; first | done | rfl, HB5.out⟩
    · obtain rfl : k = ws.length := by omega
      have hi9 : ¬ (ws.length : Int) < (ws.length : Int) := by omega
      have hst3 := hst2.out
      rw [List.drop_eq_nil_of_le (Nat.le_refl _), rdTo] at hst3
      have HM := Lib.hid (HYES.out x hst3)
      obtain ⟨q, hq⟩ : ∃ q, mIsV ds b (x : Int) = q := ⟨_, rfl⟩
      rw [hq] at HM
      have HQ := Lib.hid hq
      have f0 := hf.out.c0
      have f1 := hf.out.c1
      clear hq hst3 hst2
      go_wp2_with fail
      refine (implIsV_v ds b x _ _ _ _ hf.out.sd hn HQ.out).mono ?_
      rintro e w5 ⟨rfl, hb⟩
      have HB5 := Lib.hid (hf.out.after hb)
      clear hb
      cases q
      · go_wp2
        go_ret2
        exact ⟨by rw [HM.out.1, HM.out.2]; rfl, HB5.out⟩
      · go_wp2
        go_ret2
        exact ⟨by rw [HM.out.1, HM.out.2]; rfl, HB5.out⟩
end Go.Proofs.YtboehlffbibgmaaDoor
