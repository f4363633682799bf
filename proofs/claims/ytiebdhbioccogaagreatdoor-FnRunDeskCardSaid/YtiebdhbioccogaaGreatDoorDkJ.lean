import Derived.Test.YtiebdhbioccogaaGreatDoorDkI
import Derived.Test.YtiebdhbioccogaaGreatDoorAppW
namespace Go.Proofs.YtiebdhbioccogaaGreatDoor
open Go.RowKit Go.Maps
set_option linter.unusedVariables false
set_option linter.unusedSimpArgs false
set_option maxRecDepth 100000

/-- What is told of texts of values. -/
def VsE (ds : List D) (b : Int) (ws : List ByteArray) (w : World) (e : Ending) (w' : World) : Prop :=
  ∃ (A' : Option Addr) (c' : Nat) (zs : List Int) (er : Value), e = .returned (.tuple #[.slice A' zs.length c', er]) ∧ ((er = .nilIface ∧ zs = ws.map (rdV ds b) ∧ ∀ x ∈ ws, 0 ≤ rdV ds b x) ∨ (er = .iface 74 (.agg #[.string whatB]) ∧ ∃ x ∈ ws, rdV ds b x < 0)) ∧ w'.ownsRow w.heap.size 3 1 (.slice A' zs.length c') zs.length (flatI zs) ∧ Below w.heap.size w w'
theorem vals_snoc {ds : List D} {b : Int} {ws : List ByteArray} {k : Nat} (hk : k < ws.length) : (ws.take (k + 1)).map (rdV ds b) = (ws.take k).map (rdV ds b) ++ [rdV ds b ws[k]] := by
  rw [List.take_succ_eq_append_getElem hk, List.map_append]; rfl
set_option maxHeartbeats 16000000 in
theorem readValues_v (ds : List D) (b : Int) (ws : List ByteArray) (A : Option Addr) (m c : Nat) (w : World) (hr : SD w w.heap.size A m c ds) (hn : m ≤ 1048576) (hv : vFlag ds b = true) (Bs : Option Addr) (q cs : Nat) (hs : SS w w.heap.size Bs q cs ws) (hz : ∀ x ∈ ws, x.size ≤ 1048576) (hl : ws.length ≤ 1048577) (hT : RT w w.heap.size) :
    Calls Tryz.prog 53 #[.agg #[.slice A m c, .int .i64 b], .slice Bs q cs] w (VsE ds b ws w) := by
  obtain rfl := hs.len
  have hmx := hs.max
  have hcp := hs.cap
  unfold maxLen at hmx
  have HZ := Lib.hid hz
  have hb0 : Below w.heap.size w (w.alloc (.cells #[.slice A m c, .int .i64 b] 35)) := (Below.refl _ _).alloc (Nat.le_refl _) _
  have HF := Lib.hid (FB.start hr b)
  have HT : Hid (RT (w.alloc (.cells #[.slice A m c, .int .i64 b] 35)) w.heap.size) := Lib.hid (hT.below hb0)
  have HS : Hid (SS (w.alloc (.cells #[.slice A m c, .int .i64 b] 35)) w.heap.size Bs ws.length cs ws) := Lib.hid (hs.below hb0)
  have HV := Lib.hid hv
  clear hr hs hT hv hz hb0
  obtain ⟨w0, hw⟩ : ∃ W : World, W = (w.alloc (.cells #[.slice A m c, .int .i64 b] 35)) := ⟨_, rfl⟩
  have HW := Lib.hid hw.symm
  rw [← hw] at HF HT HS
  clear hw
  have HR_0 : Hid (w0.ownsRow (w.heap.size + 1) 3 1 (.slice none 0 0) ((ws.take 0).map (rdV ds b)).length (flatI ((ws.take 0).map (rdV ds b)))) := Lib.hid (World.ownsRow_nil _ _ _ _)
  go_enter Tryz.func53, Tryz.ntmps53
  go_wp2
  rw [HW.out]
  clear HW
  go_loopw [6, 13] (fun v i wr => ∃ k : Nat, k ≤ ws.length ∧ i = .int .i64 k ∧ Hid (∀ x ∈ ws.take k, 0 ≤ rdV ds b x) ∧ Hid (wr.ownsRow (w.heap.size + 1) 3 1 v ((ws.take k).map (rdV ds b)).length (flatI ((ws.take k).map (rdV ds b)))) ∧ Hid (FB w wr w.heap.size A m c ds b) ∧ Hid (RT wr w.heap.size) ∧ Hid (SS wr w.heap.size Bs ws.length cs ws)) (fun _ i _ => ws.length - (intOf i).toNat)
  case atStart => exact ⟨0, Nat.zero_le _, rfl, Lib.hid (by simp), HR_0, HF, HT, HS⟩
  case round =>
    clear HR_0 HF HT HS
    obtain ⟨k, hk, rfl, HOK, HR_1, HF_1, HT_1, HS_1⟩ := hrel
    by_cases hlt : k < ws.length
    · obtain ⟨bb, o, hA, hbb, d1⟩ := HS_1.out.at_ hlt
      subst hA
      have hi1 : (k : Int) < (ws.length : Int) := by omega
      have hi0 : (0 : Int) ≤ (k : Int) := by omega
      have hxz := HZ.out _ (List.getElem_mem hlt)
      have HSN := Lib.hid (vals_snoc (ds := ds) (b := b) hlt)
      have HTK : Hid (∀ P : ByteArray → Prop, (∀ x ∈ ws.take k, P x) → P ws[k] → ∀ x ∈ ws.take (k + 1), P x) := Lib.hid (fun P h1 h2 x hx => by
        rw [List.take_succ_eq_append_getElem hlt] at hx
        rcases List.mem_append.1 hx with h | h
        · exact h1 x h
        · rw [List.mem_singleton.1 h]; exact h2)
      have HMEM := Lib.hid (List.getElem_mem hlt)
      have hlen : ((ws.take k).map (rdV ds b)).length ≤ 1048577 := by rw [List.length_map, List.length_take]; omega
      generalize hx : ws[k] = x at *
      have HXE := Lib.hid hx
      clear hx
      obtain ⟨AX, cX, hvx⟩ := own_form HR_1.out
      subst hvx
      generalize hrs : (ws.take k).map (rdV ds b) = r1 at *
      have HR1 := Lib.hid hrs
      clear hrs
      have c0 := HF_1.out.c0
      have c1 := HF_1.out.c1
      obtain ⟨z, hz⟩ : ∃ z, rdV ds b x = z := ⟨_, rfl⟩
      have HZZ := Lib.hid hz
      rw [hz] at HSN
      have hz4 : -1 ≤ z ∧ z ≤ 4096 := by
        rcases rdV_cases ds b x with h | ⟨m, hm, _, h, _⟩ <;> omega
      by_cases h0 : 0 ≤ z
      · have HM1 : Hid (mRead ds b x = z) := Lib.hid (by unfold mRead; rw [hz, HV.out, decide_eq_true h0]; rfl)
        have HM2 : Hid (mReadOk ds b x = true) := Lib.hid (by unfold mReadOk; rw [hz, HV.out, decide_eq_true h0]; rfl)
        have HOK2 := Lib.hid (HTK.out _ HOK.out (by rw [hz]; exact h0))
        clear hz
        go_wp2_with fail
        refine (implRead_v ds b x _ _ _ _ HF_1.out.sd hn hxz (HT_1.out.more HF_1.out.bel.size) HM1.out HM2.out).mono ?_
        rintro e w2 ⟨rfl, hb⟩
        have HF_2 := Lib.hid (HF_1.out.call hb)
        have HT_2 := Lib.hid (HT_1.out.below (hb.mono HF_1.out.bel.size))
        have HS_2 : Hid (SS w2 w.heap.size (some ⟨bb, o, none⟩) ws.length cs ws) := Lib.hid (HS_1.out.below' hb HF_1.out.bel.size)
        have HR_2 := Lib.hid (own_below HR_1.out hb)
        have hz2 : w.heap.size + 1 ≤ w2.heap.size := World.block_lt_of_cell? _ _ HF_2.out.c0
        clear hb c0 c1 HF_1 HT_1 HS_1 HR_1 d1
        go_wp2_with (at_builtin; refine wpList_app_I rfl _ _ rfl _ _ _ _ rfl HR_2.out _ _ _ rfl (by first | rfl | simp) (by omega) hz2 ?_; intro v' w3 ho hb; have HR_3 := Lib.hid ho; have HB3 := Lib.hid hb; clear ho hb)
        go_roundw
        case rel => exact ⟨k + 1, by omega, by go_num, HOK2, Lib.hid (by rw [HSN.out]; have h := HR_3.out; simpa [flatI] using h), Lib.hid (fbG HF_2.out HB3.out (by omega) (by omega)), Lib.hid (HT_2.out.below (HB3.out.mono (by omega))), Lib.hid (HS_2.out.below (HB3.out.mono (by omega)))⟩
        case measure => simp [intOf]; omega
      · have HM1 : Hid (mRead ds b x = 0) := Lib.hid (by unfold mRead; rw [hz, decide_eq_false h0, Bool.and_false]; rfl)
        have HM2 : Hid (mReadOk ds b x = false) := Lib.hid (by unfold mReadOk; rw [hz, decide_eq_false h0, Bool.and_false])
        have HBAD : Hid (∃ x ∈ ws, rdV ds b x < 0) := Lib.hid ⟨x, HMEM.out, by rw [hz]; omega⟩
        clear hz
        go_wp2_with fail
        refine (implRead_v ds b x _ _ _ _ HF_1.out.sd hn hxz (HT_1.out.more HF_1.out.bel.size) HM1.out HM2.out).mono ?_
        rintro e w2 ⟨rfl, hb⟩
        have HB2 := Lib.hid (HF_1.out.after hb)
        clear hb c0 c1
        go_wp2
        go_ret2
        exact ⟨none, 0, [], .iface 74 (.agg #[.string whatB]), rfl, .inr ⟨rfl, HBAD.out⟩, World.ownsRow_nil _ _ _ _, HB2.out⟩
    · obtain rfl : k = ws.length := by omega
      have hk9 : ¬ (ws.length : Int) < (ws.length : Int) := by omega
      have HE : Hid (ws.take ws.length = ws) := Lib.hid (List.take_of_length_le (Nat.le_refl _))
      rw [HE.out] at HR_1 HOK
      obtain ⟨AX, cX, hvx⟩ := own_form HR_1.out
      subst hvx
      generalize hrs : ws.map (rdV ds b) = r1 at *
      have HR1 := Lib.hid hrs
      clear hrs
      go_wp2
      go_ret2
      exact ⟨AX, cX, r1, .nilIface, rfl, .inl ⟨rfl, HR1.out.symm, HOK.out⟩, own_base HR_1.out (by omega), HF_1.out.bel⟩
set_option maxHeartbeats 16000000 in
theorem ask_v (ds : List D) (b : Int) (line : ByteArray) (A : Option Addr) (m c : Nat) (w : World) (hr : SD w w.heap.size A m c ds) (hn : m ≤ 1048576) (hv : vFlag ds b = true) (hs : line.size ≤ 1048576) (hT : RT w w.heap.size) :
    Calls Tryz.prog 17 #[.agg #[.slice A m c, .int .i64 b], .string line] w (AnsE (ansT ds b line) w) := by
  obtain ⟨v, r, f, hc⟩ := dk_cut line
  have HCL : Hid (CutL line v r f) := Lib.hid hc
  have hrz : r.size ≤ 1048576 := by have := hc.2.1; omega
  have HCUT : Hid (∀ (mx : Int) (w : World), w.cell? ⟨1, 0, none⟩ = some (.int .i64 mx) → Calls Tryz.prog 51 #[.string line, .string ⟨#[32]⟩] w fun e w' => e = .returned (.tuple #[.string v, .string r, .bool f]) ∧ Below w.heap.size w w') := Lib.hid (fun mx w hm => by
    refine (Tryz.strings_Cut line ⟨#[32]⟩ mx w (by omega) hm).mono ?_
    rintro e w' ⟨he, n, rfl⟩
    refine ⟨?_, below_drewN (Below.refl _ _) n⟩
    have h1 : (Lib.cut line.data.toList (⟨#[32]⟩ : ByteArray).data.toList) = (v.data.toList, r.data.toList, f) := hc.1
    rw [h1] at he
    simp only [mk_list] at he
    exact he)
  clear hc
  have HF := Lib.hid (FB.start hr b)
  have HT : Hid (RT (w.alloc (.cells #[.slice A m c, .int .i64 b] 35)) (w.alloc (.cells #[.slice A m c, .int .i64 b] 35)).heap.size) := Lib.hid (hT.low ((Below.refl _ _).alloc (Nat.le_refl _) _))
  have HV := Lib.hid hv
  clear hr hT hv
  obtain ⟨w0, hw⟩ : ∃ W : World, W = (w.alloc (.cells #[.slice A m c, .int .i64 b] 35)) := ⟨_, rfl⟩
  have HW := Lib.hid hw.symm
  rw [← hw] at HF HT
  clear hw
  obtain ⟨mx, hmx⟩ := HT.out.mln
  by_cases hm : v = makeB
  · have HA := Lib.hid (ans_make (ds := ds) (b := b) HCL.out hm)
    subst hm
    unfold makeB at HCUT
    go_enter Tryz.func17, Tryz.ntmps17
    go_wp2_with fail
    rw [HW.out]
    refine (HCUT.out mx _ hmx).mono ?_
    rintro e w1 ⟨rfl, hb⟩
    have HF1 := Lib.hid (HF.out.call hb)
    have HT1 := Lib.hid (HT.out.low hb)
    have c0 := HF1.out.c0
    have c1 := HF1.out.c1
    clear hb HF HT hmx
    go_wp2_with fail
    refine (askMake_v ds b r _ _ _ _ HF1.out.sd hn HV.out hrz HT1.out).mono ?_
    rintro e w2 ⟨a, er, rfl, hor, hb⟩
    have HB2 := Lib.hid (HF1.out.after hb)
    clear hb c0 c1
    have HOR := Lib.hid hor
    clear hor
    go_wp2
    go_ret2
    exact ⟨a, er, rfl, by rw [HA.out]; exact HOR.out, HB2.out⟩
  have nm := dk_no (l := [109, 97, 107, 101]) hm
  have HNM := Lib.hid hm
  clear hm
  have HSPZ : Hid (∀ x ∈ splitT 32 r, x.size ≤ 1048576) := Lib.hid (fun x hx => by have := splitT_size 32 r x hx; omega)
  have hspl : (splitT 32 r).length ≤ 1048577 ∧ 1 ≤ (splitT 32 r).length := by have := splitT_len 32 r; omega
  have HBAD : Hid ((∃ x ∈ splitT 32 r, rdV ds b x < 0) → ansT ds b line = whatB) := Lib.hid (fun ⟨x, h1, h2⟩ => ans_bad HV.out HCL.out HNM.out h1 h2)
  have HONE : Hid (∀ x, splitT 32 r = [x] → 0 ≤ rdV ds b x → ansT ds b line = oneT ds b v (rdV ds b x)) := Lib.hid (fun x h1 h2 => ans_one HV.out HCL.out HNM.out h1 h2)
  have HTWO : Hid (∀ x y, splitT 32 r = [x, y] → 0 ≤ rdV ds b x → 0 ≤ rdV ds b y → ansT ds b line = twoT ds b v (rdV ds b x) (rdV ds b y)) := Lib.hid (fun x y h1 h2 h3 => ans_two HV.out HCL.out HNM.out h1 h2 h3)
  have HMORE : Hid (∀ x y z t, splitT 32 r = x :: y :: z :: t → ansT ds b line = whatB) := Lib.hid (fun x y z t h1 => ans_more HV.out HCL.out HNM.out h1)
  have HOKS : Hid (∀ s ∈ splitT 32 r, s.size ≤ maxLen) := Lib.hid (fun s h => by have := HSPZ.out s h; unfold maxLen; omega)
  have HSPL : Hid (∀ w, RT w w.heap.size → Calls Tryz.prog 54 #[.string r, .string ⟨#[32]⟩] w (StrsP (splitT 32 r) w)) := Lib.hid (fun w h => split_any r 32 w hrz h)
  unfold StrsP at HSPL
  generalize splitT 32 r = ws at *
  go_enter Tryz.func17, Tryz.ntmps17
  go_wp2_with fail
  rw [HW.out]
  refine (HCUT.out mx _ hmx).mono ?_
  rintro e w1 ⟨rfl, hb⟩
  have HF1 := Lib.hid (HF.out.call hb)
  have HT1 := Lib.hid (HT.out.low hb)
  have c0 := HF1.out.c0
  have c1 := HF1.out.c1
  have HTD := Lib.hid (HT1.out.low ((Below.refl w1.heap.size w1).drew))
  clear hb HF HT hmx
  go_wp2_with fail
  go_region_held3 (fun w' => w'.cell? ⟨w.heap.size, 0, none⟩ = some (.slice A m c) ∧ w'.cell? ⟨w.heap.size, 1, none⟩ = some (.int .i64 b))
    (first | go_keep | exact ⟨c0, c1⟩ | exact ⟨d0, d1⟩ | exact ⟨e0, e1⟩)
    (first
      | (go_at_call 54; refine (HSPL.out _ (by first | exact HT1.out | exact HTD.out)).mono ?_; rintro e w2 ⟨As, cs, rfl, ho, hb⟩; replace hb : Below w1.heap.size w1 w2 := (by first | exact hb | exact undrew hb); have HF2 := Lib.hid (HF1.out.call hb); have HT2 := Lib.hid (HT1.out.low hb); have HS2 := Lib.hid (ss_of_own ho HOKS.out); have d0 := HF2.out.c0; have d1 := HF2.out.c1; clear hb)
      | (go_at_call 53; refine (readValues_v ds b ws _ _ _ _ HF2.out.sd hn HV.out _ _ _ HS2.out HSPZ.out hspl.1 HT2.out).mono ?_; rintro e w3 ⟨Az, cz, zs, er, rfl, hor, hoz, hb⟩; have HF3 := Lib.hid (HF2.out.call hb); have HT3 := Lib.hid (HT2.out.low hb); have HOZ := Lib.hid hoz; have e0 := HF3.out.c0; have e1 := HF3.out.c1; have HOR := Lib.hid hor; clear hb hor hoz))
  rcases HOR.out with ⟨rfl, hzs, hall⟩ | ⟨rfl, hbad⟩
  case inr =>
    have HA := Lib.hid (HBAD.out hbad)
    have HB3 := Lib.hid HF3.out.bel
    clear hbad HOR
    go_wp2
    go_ret2
    exact ⟨⟨#[]⟩, .iface 74 (.agg #[.string whatB]), rfl, .inr ⟨rfl, by rw [HA.out]⟩, HB3.out⟩
  clear HOR
  have f0 := HF3.out.c0
  have f1 := HF3.out.c1
  clear c0 c1 d0 d1 e0 e1
  clear HSPZ HBAD HOKS HSPL HS2
  rcases ws with _ | ⟨x, _ | ⟨y, _ | ⟨z0, t0⟩⟩⟩
  · exact absurd hspl.2 (by simp)
  · clear HTWO HMORE
    have h0 := hall x (by simp)
    have HA := Lib.hid (HONE.out x rfl h0)
    have hx4 : -5000 ≤ rdV ds b x ∧ rdV ds b x ≤ 5000 := by rcases rdV_cases ds b x with h | ⟨m, hm, _, h, _⟩ <;> omega
    have hzs2 : zs = [rdV ds b x] := hzs
    have hzl : zs.length = 1 := by rw [hzs2]; rfl
    have HSZ := Lib.hid (si_of_own HOZ.out (by intro s hs; rw [hzs2] at hs; rw [List.mem_singleton.1 hs]; omega))
    have HZ0 : Hid (∀ h : 0 < zs.length, zs[0] = rdV ds b x) := Lib.hid (fun h => by simp [hzs2])
    obtain ⟨z, hzz⟩ : ∃ z, rdV ds b x = z := ⟨_, rfl⟩
    rw [hzz] at HA hx4 HZ0
    clear hzz hzs2 hzs
    obtain ⟨b1, o1, hA1, hbb1, x1⟩ := HSZ.out.at_ (k := 0) (by omega)
    subst hA1
    have hcz := HSZ.out.cap
    have hcm := HSZ.out.max
    unfold maxLen at hcm
    rw [Nat.add_zero, HZ0.out (by omega)] at x1
    have x2 : w3.cell? ⟨b1, o1, none⟩ = some (.int .i64 z) := x1
    clear hall x1
    rw [hzl] at hcz
    rw [hzl]
    clear hzl
    go_wp2_with fail
    go_region_held3 (fun w' => w'.cell? ⟨w.heap.size, 0, none⟩ = some (.slice A m c) ∧ w'.cell? ⟨w.heap.size, 1, none⟩ = some (.int .i64 b) ∧ w'.cell? ⟨b1, o1, none⟩ = some (.int .i64 z))
      (first | go_keep | exact ⟨f0, f1, x2⟩ | exact ⟨d0, d1, d2⟩)
      (first
        | (go_at_call 55; refine (askOne_v ds b v z _ _ _ _ (HF3.out.sd.drewN 1) hn HV.out (HT3.out.low ((Below.refl w3.heap.size w3).drew)) hx4.1 hx4.2).mono ?_; rintro e w4 ⟨a, er, rfl, hor, hb⟩; replace hb : Below w3.heap.size w3 w4 := (by first | exact hb | exact undrew hb); have HB4 := Lib.hid (HF3.out.after hb); have d0 := keep1 hb f0; have d1 := keep1 hb f1; have d2 := keep1 hb x2; have HOR := Lib.hid hor; clear hb hor))
    go_wp2
    go_ret2
    exact ⟨a, er, rfl, by rw [HA.out]; exact HOR.out, HB4.out⟩
  · clear HONE HMORE
    have h0 := hall x (by simp)
    have h1 := hall y (by simp)
    have HA := Lib.hid (HTWO.out x y rfl h0 h1)
    have hx4 : -5000 ≤ rdV ds b x ∧ rdV ds b x ≤ 5000 := by rcases rdV_cases ds b x with h | ⟨m, hm, _, h, _⟩ <;> omega
    have hy4 : -5000 ≤ rdV ds b y ∧ rdV ds b y ≤ 5000 := by rcases rdV_cases ds b y with h | ⟨m, hm, _, h, _⟩ <;> omega
    have hzs2 : zs = [rdV ds b x, rdV ds b y] := hzs
    have hzl : zs.length = 2 := by rw [hzs2]; rfl
    have HSZ := Lib.hid (si_of_own HOZ.out (by intro s hs; rw [hzs2] at hs; rcases List.mem_cons.1 hs with rfl | hs; omega; rw [List.mem_singleton.1 hs]; omega))
    have HZ0 : Hid (∀ h : 0 < zs.length, zs[0] = rdV ds b x) := Lib.hid (fun h => by simp [hzs2])
    have HZ1 : Hid (∀ h : 1 < zs.length, zs[1] = rdV ds b y) := Lib.hid (fun h => by simp [hzs2])
    obtain ⟨z, hzz⟩ : ∃ z, rdV ds b x = z := ⟨_, rfl⟩
    obtain ⟨y', hyy⟩ : ∃ z, rdV ds b y = z := ⟨_, rfl⟩
    rw [hzz] at HA hx4 HZ0
    rw [hyy] at HA hy4 HZ1
    clear hzz hyy hzs2 hzs
    obtain ⟨b1, o1, hA1, hbb1, x1⟩ := HSZ.out.at_ (k := 0) (by omega)
    obtain ⟨b2, o2, hA2, hbb2, y1⟩ := HSZ.out.at_ (k := 1) (by omega)
    subst hA1
    injection hA2 with hA2
    injection hA2 with e1 e2
    subst e1 e2
    have hcz := HSZ.out.cap
    have hcm := HSZ.out.max
    unfold maxLen at hcm
    rw [Nat.add_zero, HZ0.out (by omega)] at x1
    rw [HZ1.out (by omega)] at y1
    have x2 : w3.cell? ⟨b1, o1, none⟩ = some (.int .i64 z) := x1
    have y2 : w3.cell? ⟨b1, o1 + 1, none⟩ = some (.int .i64 y') := y1
    clear hall x1 y1
    rw [hzl] at hcz
    rw [hzl]
    clear hzl
    go_wp2_with fail
    go_region_held3 (fun w' => w'.cell? ⟨w.heap.size, 0, none⟩ = some (.slice A m c) ∧ w'.cell? ⟨w.heap.size, 1, none⟩ = some (.int .i64 b) ∧ w'.cell? ⟨b1, o1, none⟩ = some (.int .i64 z) ∧ w'.cell? ⟨b1, o1 + 1, none⟩ = some (.int .i64 y'))
      (first | go_keep | exact ⟨f0, f1, x2, y2⟩ | exact ⟨d0, d1, d2, d3⟩)
      (first
        | (go_at_call 56; refine (askTwo_v ds b v z y' _ _ _ _ (HF3.out.sd.drewN 1) hn HV.out (HT3.out.low ((Below.refl w3.heap.size w3).drew))).mono ?_; rintro e w4 ⟨a, er, rfl, hor, hb⟩; replace hb : Below w3.heap.size w3 w4 := (by first | exact hb | exact undrew hb); have HB4 := Lib.hid (HF3.out.after hb); have d0 := keep1 hb f0; have d1 := keep1 hb f1; have d2 := keep1 hb x2; have d3 := keep1 hb y2; have HOR := Lib.hid hor; clear hb hor))
    go_wp2
    go_ret2
    exact ⟨a, er, rfl, by rw [HA.out]; exact HOR.out, HB4.out⟩
  · have HA := Lib.hid (HMORE.out x y z0 t0 rfl)
    have hlz : 3 ≤ zs.length := by rw [hzs]; simp
    have g1 : ((zs.length : Int) == 1) = false := by rw [beq_eq_false_iff_ne]; omega
    have g2 : ((zs.length : Int) == 2) = false := by rw [beq_eq_false_iff_ne]; omega
    have HB3 := Lib.hid HF3.out.bel
    clear hzs hall HTWO HONE HMORE HOZ
    go_wp2
    go_ret2
    exact ⟨⟨#[]⟩, .iface 74 (.agg #[.string whatB]), rfl, .inr ⟨rfl, by rw [HA.out]⟩, HB3.out⟩
end Go.Proofs.YtiebdhbioccogaaGreatDoor
