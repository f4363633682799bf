import Derived.Test.YtiebdhbioccogaaGreatDoorDkJ
import Derived.Test.YtiebdhbioccogaaGreatDoorRepA
import Derived.Test.YtiebdhbioccogaaGreatDoorBaseJ
namespace Go.Proofs.YtiebdhbioccogaaGreatDoor
open Go.RowKit Go.Maps
set_option linter.unusedVariables false
set_option linter.unusedSimpArgs false
set_option maxRecDepth 100000

theorem pf_flag {s : ByteArray} (h : okPF s = true) : vFlag (mPF s) (bPF s) = true := by
  unfold okPF at h
  unfold mPF bPF
  split at h
  · rename_i hd ts he
    try rw [he]
    try simp only
    unfold mBldF mBldB
    rw [h, if_pos rfl, if_pos rfl]
    unfold builtF at h
    rw [Bool.and_eq_true] at h
    exact h.2
  · exact absurd h (by decide)
theorem rep_desk (ds : List D) (b : Int) : ∀ ls : List ByteArray, (⟨(Lib.repeatL ((⟨#[119, 114, 111, 110, 103]⟩ : ByteArray) ++ ⟨#[10]⟩).data.toList ls.length).toArray⟩ : ByteArray) = deskT ds b false ls
  | [] => rfl
  | l :: r => by
    have ih := rep_desk ds b r
    show (⟨(_ ++ Lib.repeatL _ r.length).toArray⟩ : ByteArray) = (badB ++ nlB) ++ deskT ds b false r
    rw [← ih]
    apply ByteArray.ext
    simp [badB, nlB]
/-- What the desk looks up. -/
structure DT (w : World) (B : Nat) : Prop where
  rt : RT w B
  et : w.cell? ⟨0, 0, none⟩ = some (.iface 159 (.agg #[.pointer (some ⟨9, 40, none⟩)]))
  le : 0 < B
theorem DT.below {w w' : World} {B : Nat} (h : DT w B) (hb : Below B w w') : DT w' B := ⟨h.rt.below hb, (hb.cell (p := ⟨0, 0, none⟩) h.le).trans h.et, h.le⟩
theorem DT.more {w : World} {B B' : Nat} (h : DT w B) (hB : B ≤ B') : DT w B' := ⟨h.rt.more hB, h.et, Nat.lt_of_lt_of_le h.le hB⟩
set_option maxHeartbeats 16000000 in
theorem implDesk_v (s : ByteArray) (ls : List ByteArray) (Bs : Option Addr) (q cs : Nat) (w : World) (hs : SS w w.heap.size Bs q cs ls) (hz : s.size ≤ 1048576) (hlz : ∀ x ∈ ls, x.size ≤ 1048576) (hT : DT w w.heap.size) :
    Calls Tryz.prog 8 #[.string s, .slice Bs q cs] w fun e w' => e = .returned (.string (mDesk s ls)) ∧ Below w.heap.size w w' := by
  obtain rfl := hs.len
  have hmx := hs.max
  have hcp := hs.cap
  unfold maxLen at hmx
  have HLZ := Lib.hid hlz
  by_cases h20 : 20 < ls.length
  · have HM : Hid (mDesk s ls = ⟨#[]⟩) := Lib.hid (by unfold mDesk; rw [if_pos h20])
    have h20i : (20 : Int) < (ls.length : Int) := by omega
    go_enter Tryz.func8, Tryz.ntmps8
    go_wp2
    go_ret
    exact ⟨by rw [HM.out]; first | done | rfl, Below.refl _ _⟩
  have h20i : ¬ (20 : Int) < (ls.length : Int) := by omega
  have HM : Hid (mDesk s ls = deskT (mPF s) (bPF s) (okPF s) ls) := Lib.hid (by unfold mDesk; rw [if_neg h20])
  have HPF : Hid (okPF s = true → vFlag (mPF s) (bPF s) = true) := Lib.hid pf_flag
  have hpl := (mPF_dok s).2
  have HPD := Lib.hid (mPF_dok s).1
  have HRF : Hid (∀ w, RT w w.heap.size → Calls Tryz.prog 14 #[.string s] w (FlE (mPF s) (bPF s) (okPF s) w)) := Lib.hid (fun w h => readFlag_v s w hz h)
  unfold FlE at HRF
  have HS := Lib.hid hs
  have HT := Lib.hid hT
  clear hs hT hlz
  generalize mPF s = ds at *
  generalize bPF s = b at *
  generalize okPF s = ok at *
  generalize hmd : mDesk s ls = R at *
  clear hmd
  go_enter Tryz.func8, Tryz.ntmps8
  go_wp2_with fail
  refine (HRF.out _ HT.out.rt).mono ?_
  rintro e w1 ⟨A, c, er, rfl, hor, ho, hb⟩
  have HD1 := Lib.hid (sd_of_own ho HPD.out)
  have HB1 := Lib.hid hb
  have HT1 : Hid (DT w1 w1.heap.size) := Lib.hid ((HT.out.below hb).more hb.size)
  have HS1 : Hid (SS w1 w1.heap.size Bs ls.length cs ls) := Lib.hid ((HS.out.below hb).more hb.size)
  clear ho hb
  rcases hor with ⟨rfl, rfl⟩ | ⟨rfl, rfl, hM0, hB0⟩
  case inr =>
    clear hM0 hB0
    unfold errV wrongB
    have HR : Hid (R = deskT ds b false ls) := Lib.hid HM.out
    obtain ⟨w2, hw⟩ : ∃ W : World, W = w1.alloc (.cells #[.slice A ds.length c, .int .i64 b] 35) := ⟨_, rfl⟩
    have hb2 : Below w1.heap.size w1 w2 := by rw [hw]; exact (Below.refl _ _).alloc (Nat.le_refl _) _
    have HB2 : Hid (Below w.heap.size w w2) := Lib.hid (HB1.out.trans (hb2.mono HB1.out.size))
    have HT2 := Lib.hid ((HT1.out.below hb2).more hb2.size)
    have HW := Lib.hid hw.symm
    have hz6 : ((⟨#[119, 114, 111, 110, 103]⟩ : ByteArray) ++ (⟨#[10]⟩ : ByteArray)).size ≤ 6 := by decide
    have HREP : Hid (∀ w, Calls Tryz.prog 15 #[.string ((⟨#[119, 114, 111, 110, 103]⟩ : ByteArray) ++ (⟨#[10]⟩ : ByteArray)), .int .i64 (ls.length : Int)] w fun e w' => e = .returned (.string R) ∧ Below w.heap.size w w') := Lib.hid (fun w => by
      rw [HR.out, ← rep_desk ds b ls]
      exact Tryz.strings_Repeat _ ls.length w (by omega) (by
        have h6 : ((⟨#[119, 114, 111, 110, 103]⟩ : ByteArray) ++ (⟨#[10]⟩ : ByteArray)).size = 6 := by decide
        rw [h6]; omega))
    clear hw hb2
    go_wp2_with fail
    rw [HW.out]
    refine (answerOf_err _ _ _ HT2.out.et).mono ?_
    rintro e w3 ⟨rfl, hb⟩
    have HB3 : Hid (Below w.heap.size w w3) := Lib.hid (HB2.out.trans (hb.mono HB2.out.size))
    clear hb
    go_wp2_with fail
    refine (HREP.out _).mono ?_
    rintro e w4 ⟨rfl, hb⟩
    have HB4 : Hid (Below w.heap.size w w4) := Lib.hid (HB3.out.trans (hb.mono HB3.out.size))
    clear hb
    go_wp2
    go_ret
    exact ⟨rfl, HB4.out⟩
  have HV := Lib.hid (HPF.out rfl)
  have HR : Hid (R = deskT ds b true ls) := Lib.hid HM.out
  have HF2 := Lib.hid (FB.start HD1.out b)
  obtain ⟨w2, hw⟩ : ∃ W : World, W = w1.alloc (.cells #[.slice A ds.length c, .int .i64 b] 35) := ⟨_, rfl⟩
  have hb2 : Below w1.heap.size w1 w2 := by rw [hw]; exact (Below.refl _ _).alloc (Nat.le_refl _) _
  rw [← hw] at HF2
  have HT2 : Hid (DT w2 w1.heap.size) := Lib.hid (HT1.out.below hb2)
  have HS2 : Hid (SS w2 w1.heap.size Bs ls.length cs ls) := Lib.hid (HS1.out.below hb2)
  have HW := Lib.hid hw.symm
  clear hw hb2 HT1 HS1 HD1
  go_wp2
  rw [HW.out]
  clear HW
  go_loopw [7, 28] (fun v i wr => ∃ (k : Nat) (t : ByteArray), k ≤ ls.length ∧ i = .int .i64 k ∧ v = .string t ∧ t.size ≤ 1001 * k ∧ Hid (t = deskT ds b true (ls.take k)) ∧ Hid (FB w1 wr w1.heap.size A ds.length c ds b) ∧ Hid (DT wr w1.heap.size) ∧ Hid (SS wr w1.heap.size Bs ls.length cs ls)) (fun _ i _ => ls.length - (intOf i).toNat)
  case atStart => exact ⟨0, _, Nat.zero_le _, rfl, rfl, Nat.zero_le _, Lib.hid rfl, HF2, HT2, HS2⟩
  case round =>
    clear HF2 HT2 HS2
    obtain ⟨k, t, hk, rfl, rfl, htz, ht, HF3, HT3, HS3⟩ := hrel
    by_cases hlt : k < ls.length
    · obtain ⟨bb, o, hA, hbb, d1⟩ := HS3.out.at_ hlt
      subst hA
      have hi1 : (k : Int) < (ls.length : Int) := by omega
      have hi0 : (0 : Int) ≤ (k : Int) := by omega
      have hxz := HLZ.out _ (List.getElem_mem hlt)
      have HSN := Lib.hid (deskT_snoc (ds := ds) (b := b) (ok := true) hlt)
      have haz := ansT_size ds b ls[k]
      have HASK : Hid (∀ (w : World), SD w w.heap.size A ds.length c ds → RT w w.heap.size → Calls Tryz.prog 17 #[.agg #[.slice A ds.length c, .int .i64 b], .string ls[k]] w (AnsE (ansT ds b ls[k]) w)) := Lib.hid (fun w h1 h2 => ask_v ds b ls[k] A ds.length c w h1 (by omega) HV.out hxz h2)
      unfold AnsE at HASK
      generalize ansT ds b ls[k] = u at *
      generalize ls[k] = x at *
      have c0 := HF3.out.c0
      have c1 := HF3.out.c1
      have hz1 : (u ++ (⟨#[10]⟩ : ByteArray)).size ≤ 1001 := by rw [ByteArray.size_append]; show _ + 1 ≤ _; omega
      have hz2 : (t ++ (u ++ (⟨#[10]⟩ : ByteArray))).size ≤ 1001 * (k + 1) := by rw [ByteArray.size_append]; omega
      have HTE : Hid (t ++ (u ++ (⟨#[10]⟩ : ByteArray)) = deskT ds b true (ls.take (k + 1))) := Lib.hid (by rw [HSN.out, ← ht.out, if_pos rfl]; rfl)
      have g1 : ¬ 9223372036854775807 < u.size + 1 := by omega
      have g2 : ¬ 9223372036854775807 < t.size + (u.size + 1) := by omega
      clear haz
      go_wp2_with fail
      refine (HASK.out _ HF3.out.sd (HT3.out.rt.more HF3.out.bel.size)).mono ?_
      rintro e w4 ⟨a, er, rfl, hor, hb⟩
      have HF4 := Lib.hid (HF3.out.call hb)
      have HT4 : Hid (DT w4 w1.heap.size) := Lib.hid (HT3.out.below (hb.mono HF3.out.bel.size))
      have HS4 : Hid (SS w4 w1.heap.size (some ⟨bb, o, none⟩) ls.length cs ls) := Lib.hid (HS3.out.below (hb.mono HF3.out.bel.size))
      clear hb c0 c1 d1 HF3 HT3 HS3
      have HAN : Hid (Calls Tryz.prog 16 #[.string a, er] w4 fun e w' => e = .returned (.string u) ∧ Below w4.heap.size w4 w') := Lib.hid (by
        rcases hor with ⟨rfl, rfl⟩ | ⟨rfl, rfl⟩
        · exact answerOf_nil _ _
        · exact answerOf_err _ _ _ HT4.out.et)
      clear hor
      have hz3 : (u ++ (⟨#[10]⟩ : ByteArray)).size ≤ 140737488355328 := by omega
      have hz4 : (t ++ (u ++ (⟨#[10]⟩ : ByteArray))).size ≤ 140737488355328 := by omega
      go_wp2_with fail
      refine HAN.out.mono ?_
      rintro e w5 ⟨rfl, hb⟩
      have HF5 := Lib.hid (HF4.out.call hb)
      have HT5 : Hid (DT w5 w1.heap.size) := Lib.hid (HT4.out.below (hb.mono HF4.out.bel.size))
      have HS5 : Hid (SS w5 w1.heap.size (some ⟨bb, o, none⟩) ls.length cs ls) := Lib.hid (HS4.out.below (hb.mono HF4.out.bel.size))
      clear hb
      go_wp2
      go_roundw
      case rel => exact ⟨k + 1, _, by omega, by go_num, rfl, hz2, HTE, HF5, HT5, HS5⟩
      case measure => simp [intOf]; omega
    · obtain rfl : k = ls.length := by omega
      have hk9 : ¬ (ls.length : Int) < (ls.length : Int) := by omega
      have HE : Hid (t = R) := Lib.hid (by rw [HR.out, ht.out, List.take_of_length_le (Nat.le_refl _)])
      go_wp2
      go_ret
      exact ⟨by rw [HE.out]; first | done | rfl, HB1.out.trans (HF3.out.bel.mono HB1.out.size)⟩
end Go.Proofs.YtiebdhbioccogaaGreatDoor
