/-
For every code the law of each line's answer returns true: the program's RunDesk answers as its model, has as many newlines as there are lines, and of the first lines it is the beginning of that of all.
Conditions: none.
-/
import Derived.Test.YtiebdhbioccogaaGreatDoorBaseDk
import Derived.Test.YtiebdhbioccogaaGreatDoorOpenC
import Derived.Test.YtiebdhbioccogaaGreatDoorDkK
import Derived.Deep.DeepCutAuto
import Derived.Test.YtiebdhbioccogaaGreatDoorDkD
namespace Go.Proofs.YtiebdhbioccogaaGreatDoor.fnRunDesk
open Go.ChangeShapes Go.WideShapes Go.ChangeAt Go.RowKit
open Go.ChangeMaps (open_string shut_string)
set_option linter.unusedVariables false
set_option linter.unusedSimpArgs false
set_option maxRecDepth 100000

theorem nilNo {b : ByteArray} (h : ¬ b = ⟨#[]⟩) : (b.toList == []) = false := dk_noS (l := []) h
theorem takeK {w : World} {B n c k : Nat} {A : Option Addr} {ss : List ByteArray} (h : SS w B A n c ss) (hk : k ≤ n) : SS w B A k c (ss.take k) :=
  ⟨Rd.take_ h.rd k, by rw [List.length_take, h.len]; omega, by have := h.cap; omega, h.max, fun s hs => h.ok s (List.mem_of_mem_take hs)⟩
theorem runS_to (A : Option Addr) (n c k : Nat) (hk : k ≤ c) (W : World) :
    (Instr.slice 22 (.slice A n c) none (some (.int .i64 (k : Int))) none).run Tryz.prog W = .ok (.slice A k c) W := by
  have hi : (k : Int) ≤ (c : Int) := by omega
  have h0 : (0 : Int) ≤ (k : Int) := by omega
  rw [run_slice_h (P := Tryz.prog) W 22 A n c (by kernel_rfl) .i64 (k : Int) h0 hi]
  have hs : (sizeOf (Tryz.prog.elem 22)).run Tryz.prog W = .ok 1 W := by kernel_rfl
  rw [hs]
  cases A <;> simp [Result.andThen, sliced, Addr.add]

set_option maxHeartbeats 16000000 in
theorem walk (A : Option Addr) (n c : Nat) (zs : List Int) (w : World) (h : SB w w.heap.size A n c zs) (hT : TabAt w) :
    Calls Tryz.prog 4 #[.slice A n c] w fun e w' => e = .returned (.bool true) ∧ Below w.heap.size w w' := by
  have hm := h.max
  have hcap := h.cap
  unfold maxLen at hm
  have HS0 := Lib.hid h
  have HTb : Hid (Tb w w.heap.size) := Lib.hid hT
  clear h hT
  by_cases hbig : 1048576 < (n : Int)
  · go_enter Tryz.func4, Tryz.ntmps4
    go_wp2
    go_ret
    exact ⟨rfl, Below.refl _ _⟩
  go_enter Tryz.func4, Tryz.ntmps4
  go_wp2_with fail
  refine (drawRunDesk_any A n c zs _ HS0.out).mono ?_
  rintro e w1 ⟨s, Al, cl, ls, rfl, hsz, hl6, hlz, hss, hb⟩
  have HB_1 := Lib.hid hb
  have Tb_1 := Lib.hid ((HTb.out.below hb).call hb.size)
  have SS_1 := Lib.hid hss
  have hcl := hss.cap
  clear HTb hb hss
  have hle : ∀ x ∈ ls, x.size ≤ 1048576 := fun x hx => by have := hlz x hx; omega
  have e20 : ∀ k, mDesk s (ls.take k) = deskT (mPF s) (bPF s) (okPF s) (ls.take k) := fun k => by unfold mDesk; rw [if_neg (by rw [List.length_take]; omega)]
  have hall : ls.take ls.length = ls := List.take_of_length_le (Nat.le_refl _)
  have HIM : Hid (∀ (k : Nat) (w : World), SS w w.heap.size Al k cl (ls.take k) → Tb w w.heap.size → Calls Tryz.prog 8 #[.string s, .slice Al k cl] w fun e w' => e = .returned (.string (deskT (mPF s) (bPF s) (okPF s) (ls.take k))) ∧ Below w.heap.size w w') := Lib.hid (fun k w h ht => by rw [← e20 k]; exact implDesk_v s (ls.take k) Al k cl w h (by omega) (fun x hx => hle x (List.mem_of_mem_take hx)) ht)
  have HSP : Hid (∀ w : World, SS w w.heap.size Al ls.length cl ls → Calls Tryz.prog 6 #[.string s, .slice Al ls.length cl] w fun e w' => e = .returned (.string (deskT (mPF s) (bPF s) (okPF s) ls)) ∧ Below w.heap.size w w') := Lib.hid (fun w h => by have := specDesk_v s ls Al ls.length cl w h (by omega) hle; rw [← hall, e20, hall] at this; exact this)
  have HNL : Hid (nls (deskT (mPF s) (bPF s) (okPF s) ls) = ls.length) := Lib.hid (nls_desk pf_flagS ls)
  have HPR := Lib.hid (fun k => desk_pre (mPF s) (bPF s) (okPF s) ls k)
  have HSO := Lib.hid (fun h => desk_some (mPF s) (bPF s) (okPF s) (ls := ls) h)
  have hoz := deskT_size (mPF s) (bPF s) (okPF s) ls
  have HI0 : Hid (∀ w : World, SS w w.heap.size Al ls.length cl ls → Tb w w.heap.size → Calls Tryz.prog 8 #[.string s, .slice Al ls.length cl] w fun e w' => e = .returned (.string (deskT (mPF s) (bPF s) (okPF s) ls)) ∧ Below w.heap.size w w') := Lib.hid (fun w h ht => by have := HIM.out ls.length w (by rw [hall]; exact h) ht; rw [hall] at this; exact this)
  have HE0 : Hid (ls = [] → deskT (mPF s) (bPF s) (okPF s) ls = ⟨#[]⟩) := Lib.hid (fun h => by rw [h]; rfl)
  clear e20 hle hlz hall
  generalize mPF s = ds at *
  generalize bPF s = b at *
  generalize okPF s = ok at *
  generalize hq : deskT ds b ok ls = o at *
  clear hq
  go_wp2_with fail
  refine (HI0.out _ SS_1.out Tb_1.out).mono ?_
  rintro e w2 ⟨rfl, hb⟩
  have Tb_2 := Lib.hid ((Tb_1.out.below hb).call hb.size)
  have SS_2 := Lib.hid ((SS_1.out.below hb).call hb.size)
  have HB_2 : Hid (Below w.heap.size w w2) := Lib.hid (HB_1.out.trans (hb.mono HB_1.out.size))
  clear hb Tb_1 SS_1 HB_1 HI0
  go_wp2_with fail
  refine (HSP.out _ SS_2.out).mono ?_
  rintro e w3 ⟨rfl, hb⟩
  have Tb_3 := Lib.hid ((Tb_2.out.below hb).call hb.size)
  have SS_3 := Lib.hid ((SS_2.out.below hb).call hb.size)
  have HB_3 : Hid (Below w.heap.size w w3) := Lib.hid (HB_2.out.trans (hb.mono HB_2.out.size))
  clear hb Tb_2 SS_2 HB_2
  by_cases h0 : ls = []
  · have hne : (o.toList == []) = true := by rw [HE0.out h0]; kernel_rfl
    clear h0 HE0 HSO
    go_wp2_with fail
    refine (HSP.out _ SS_3.out).mono ?_
    rintro e w4 ⟨rfl, hb⟩
    have HB_4 : Hid (Below w.heap.size w w4) := Lib.hid (HB_3.out.trans (hb.mono HB_3.out.size))
    clear hb Tb_3 SS_3 HB_3
    go_wp2
    go_ret
    exact ⟨by first | rfl | kernel_rfl | (go_simp; done), HB_4.out⟩
  have hne : (o.toList == []) = false := nilNo (HSO.out h0)
  clear h0 HSO HE0
  go_wp2_with fail
  go_loopw [6] (fun i wr => ∃ (k : Nat), k ≤ ls.length + 1 ∧ i = .int .i64 k ∧ Hid (Tb wr wr.heap.size) ∧ Hid (SS wr wr.heap.size Al ls.length cl ls) ∧ Hid (Below w.heap.size w wr)) (fun i _ => ls.length + 1 - (intOf i).toNat)
  case atStart => exact ⟨0, by omega, rfl, Tb_3, SS_3, HB_3⟩
  case round =>
    clear Tb_3 SS_3 HB_3
    obtain ⟨k, hk, rfl, Tb_4, SS_4, HB_4⟩ := hrel
    obtain ⟨w4, hwn⟩ : ∃ W : World, W = wr := ⟨_, rfl⟩
    subst hwn
    by_cases hlt : k ≤ ls.length
    · have hi1 : (k : Int) ≤ (ls.length : Int) := by omega
      have hi0 : (0 : Int) ≤ (k : Int) := by omega
      have hw1 : IntKind.i64.wrap ((k : Int) + 1) = (k : Int) + 1 := by rw [IntKind.wrap_i64]; omega
      have hsl := runS_to Al ls.length cl k (by omega)
      have ST := Lib.hid (takeK SS_4.out hlt)
      have HPK := Lib.hid (HPR.out k).1
      have hpz := (HPR.out k).2
      have HIK := Lib.hid (HIM.out k)
      generalize deskT ds b ok (ls.take k) = u at *
      have g1 : ¬ (o.size : Int) < (u.size : Int) := by omega
      have g2 : (u.size : Int) ≤ (o.size : Int) := by omega
      have g3 : (0 : Int) ≤ (u.size : Int) := by omega
      go_wp2_with fail
      refine (HIK.out _ ST.out Tb_4.out).mono ?_
      rintro e w5 ⟨rfl, hb⟩
      have Tb_5 := Lib.hid ((Tb_4.out.below hb).call hb.size)
      have SS_5 := Lib.hid ((SS_4.out.below hb).call hb.size)
      have HB_5 : Hid (Below w.heap.size w w5) := Lib.hid (HB_4.out.trans (hb.mono HB_4.out.size))
      clear hb Tb_4 SS_4 HB_4 ST HIK
      have hpk := HPK.out
      clear HPK
      go_wp2
      go_roundw
      case rel => exact ⟨k + 1, by omega, by go_num, Tb_5, SS_5, HB_5⟩
      case measure => simp [intOf]; omega
    · obtain rfl : k = ls.length + 1 := by omega
      have hk9 : ¬ ((ls.length + 1 : Nat) : Int) ≤ (ls.length : Int) := by omega
      have hk8 : ¬ (ls.length : Int) + 1 ≤ (ls.length : Int) := by omega
      have HQ := Lib.hid HNL.out
      go_wp2_with fail
      refine (newlines_w o _ (by omega) HQ.out).mono ?_
      rintro e w5 ⟨rfl, hb⟩
      have HB_5 : Hid (Below w.heap.size w w5) := Lib.hid (HB_4.out.trans (hb.mono HB_4.out.size))
      have eq : ((ls.length : Int) == (ls.length : Int)) = true := beq_self_eq_true _
      clear hb Tb_4 SS_4 HB_4
      go_wp2
      go_ret
      exact ⟨by first | rfl | kernel_rfl | (go_simp; done), HB_5.out⟩

set_option maxRecDepth 100000 in
theorem lifted (os : Os) (started : os.Started) (H : Type) (enc : TypeId × Value → H) :
    ReturnsInHanded {} Tryz.checked os 4 .any (fun w args => (Rows.fnRunDeskSpec.pre enc Tryz.prog Tryz.f4 [] false w args ∧ laidMetH Tryz.prog laidL w) ∧ sizedMet enc Tryz.prog Tryz.f4 (OpenSpec.ofChange Rows.fnRunDeskSpec) false w args) (Rows.fnRunDeskSpec.post enc Tryz.prog Tryz.f4 false true false false) := by
  refine handed_shaped (C := Tryz.checked) (X := fun w _ => laidMetH Tryz.prog laidL w) (fun _ _ _ hh h => h.of_heap hh) own started (by kernel_rfl) Tryz.func4
    (ChangeSpec.witness_shaped (enc := enc) (C := Tryz.checked) (os := os) (X := fun w _ => laidMetH Tryz.prog laidL w) false (deskWorld os) #[.slice none 0 0] 8 (deskWorld_os _) (World.shaped_of_ZipB (by kernel_rfl) (by kernel_rfl)) (by kernel_rfl) (by kernel_rfl) (by kernel_rfl) (door_met os _)) ?_
  intro W base args ds gs before hval0 hW hcnd hL hsh
  have hval : ∀ (j : Nat) t v, Tryz.f4.params[j]? = some t → args[j]? = some v → Value.okWide Tryz.prog W .any base t v := hval0
  have hW' := hW
  obtain ⟨p, q, hA0, hV, rfl, hfz, hnd⟩ := hW
  have hA : DataW.TrodAll enc Tryz.prog W 0 (fun _ => true) true Tryz.f4.params.toList args.toList ds p := hA0
  rw [Tryz.params4] at hA hval
  obtain ⟨v0, vs0, d0, ds0, p0, q0, hargs, rfl, rfl, h0, r0⟩ := trodAll_cons hA
  obtain ⟨rfl, rfl, rfl⟩ := trodAll_nil r0
  obtain rfl : args = #[v0] := by cases args; simp_all
  obtain ⟨rfl, rfl⟩ := trodVars_none hV
  have k0 := h0
  have lt0 : ∀ x ∈ p0, x.block < W.heap.size := by obtain ⟨m, hm⟩ := k0; exact DataW.trod_lt m _ _ _ hm
  obtain ⟨A0, n0, c0, l0, rfl, w0⟩ := open_code (hval 0 28 v0 rfl rfl) h0
  clear hA0 hval0
  refine (walk A0 n0 c0 l0 W w0 (tab_of_laid hL hsh)).mono fun e W' ⟨he, bel⟩ => ?_
  subst he
  exact ⟨_, rfl, _, _, _, [], _, [], hW', trodAll_mk1 (shut_bool Tryz.underlying4 _), (trodAll_cons_mk (Below.trod laidOut (by kernel_rfl) (of_decide_eq_true (by kernel_rfl)) k0 bel lt0) trodAll_mk0), rfl, bel.frame _, fun h => by cases h⟩

theorem over : Rows.fnRunDeskRow.holds Tryz.pinned (OpenSpec.ofChange Rows.fnRunDeskSpec) :=
  OpenClaim.holds_of_wide 4 Tryz.f4 rfl rfl rfl rfl rfl rfl rfl ⟨rfl, rfl, rfl, rfl, rfl⟩ rfl rfl rfl rfl rfl (by kernel_rfl) Tryz.func4 (by kernel_rfl)
    (of_decide_eq_true (by kernel_rfl)) (by unfold Func.isWrapper; first | (rw [if_pos (by decide +kernel)]; kernel_rfl) | (rw [if_neg (by decide +kernel)]; exact ⟨rfl, rfl⟩))
    (fun os started H enc _ => lifted os started H enc)

theorem proved : Rows.FnRunDeskCardSaid :=
  Claim7.holds_tied_plain_at .later [] laidK true _ true
    over (fun _ h => by cases h) (by kernel_rfl) (fun _ h => by cases h) fnRunDesk_row_tie rfl ⟨rfl, rfl⟩ (by kernel_rfl) rfl
    (fun f fn hf hfn => by
      obtain rfl : f = 4 := (Option.some.inj ((show Tryz.prog.funcNamed "loop.example/namedflags/laws.FnRunDesk" = some 4 by kernel_rfl).symm.trans hf)).symm
      obtain rfl : fn = Tryz.f4 := (Option.some.inj (Tryz.func4.symm.trans hfn)).symm
      exact ⟨by kernel_rfl, fun j t ht => by
        have hm := Array.mem_of_getElem? ht
        have hall : (List.all (Array.toList Tryz.f4.params) fun u => !Tryz.prog.wantsStandIn u) = true := by kernel_rfl
        exact (show Tryz.prog.wantsStandIn t = false by simpa using List.all_eq_true.1 hall t (by simpa using hm))⟩)
    (by kernel_rfl)
end Go.Proofs.YtiebdhbioccogaaGreatDoor.fnRunDesk
