/-
For every code the law of next members returns true: the program's NextMember answers as its model, and as many steps as there are members lead back to the member of the name.
Conditions: none.
-/
import Derived.Test.YtjccnahebafepaaLBase
namespace Go.Proofs.Ytjccnahebafepaa.fnNextMember
open Go.ChangeShapes Go.WideShapes Go.ChangeAt Go.RowKit
open Go.ChangeMaps (open_string shut_string)
set_option linter.unusedVariables false

/-- The name x is t steps behind the one at rank r. -/
def At (ds : List D) (r t : Nat) (x : ByteArray) : Prop :=
  ∃ k, ∃ hk : k < ds.length, fidx (isNm x) ds = (k : Int) ∧ fidx (isVal ds[k].val) (mems ds) = (((r + t) % (mems ds).length : Nat) : Int)
theorem at_step {ds : List D} (hv : vEnum ds = true) {q : Nat} (hq : q < (mems ds).length) {r t : Nat} (h : q = (r + t) % (mems ds).length) : At ds r t (mems ds)[q].name := by
  obtain ⟨j, hj, e, hf⟩ := mems_get ds q hq
  refine ⟨j, hj, by rw [e]; exact name_idx hv j hj, ?_⟩
  have := rank_mem ds q hq
  rw [e] at this
  rw [this, h]
theorem implNext_w (ds : List D) (s : ByteArray) (A : Option Addr) (c n : Nat) (w : World) (hr : SD w w.heap.size A n c ds) (hv : vEnum ds = true) {r t : Nat} (h : At ds r t s) (h0 : 0 < (mems ds).length) {x : ByteArray} {v : Int} (hx : (mems ds)[(r + (t + 1)) % (mems ds).length]? = some ⟨x, v⟩) :
    Calls Try.prog 51 #[.agg #[.slice A n c], .string s] w fun e w' => e = .returned (.tuple #[.string x, .bool true]) ∧ Below w.heap.size w w' := by
  obtain ⟨k, hk, h1, h2⟩ := h
  have hl := Nat.mod_lt (r + t) h0
  refine (implNext_yes ds s A c n w hr hv k hk h1 ((r + t) % (mems ds).length) hl h2).mono fun e w' ⟨he, hb⟩ => ⟨?_, hb⟩
  rw [he]
  have e1 : ((r + t) % (mems ds).length + 1) % (mems ds).length = (r + (t + 1)) % (mems ds).length := by rw [Nat.mod_add_mod]; rfl
  have e2 : (mems ds)[((r + t) % (mems ds).length + 1) % (mems ds).length]'(next_lt hl) = ⟨x, v⟩ := by
    have := hx
    rw [← e1, List.getElem?_eq_getElem (next_lt hl)] at this
    exact Option.some.inj this
  rw [e2]
theorem specNext_w (ds : List D) (s : ByteArray) (A : Option Addr) (c n : Nat) (w : World) (hr : SD w w.heap.size A n c ds) (hv : vEnum ds = true) {r t : Nat} (h : At ds r t s) (h0 : 0 < (mems ds).length) {x : ByteArray} {v : Int} (hx : (mems ds)[(r + (t + 1)) % (mems ds).length]? = some ⟨x, v⟩) :
    Calls Try.prog 52 #[.agg #[.slice A n c], .string s] w fun e w' => e = .returned (.tuple #[.string x, .bool true]) ∧ Below w.heap.size w w' := by
  obtain ⟨k, hk, h1, h2⟩ := h
  have hl := Nat.mod_lt (r + t) h0
  refine (specNext_yes ds s A c n w hr hv k hk h1 ((r + t) % (mems ds).length) hl h2).mono fun e w' ⟨he, hb⟩ => ⟨?_, hb⟩
  rw [he]
  have e1 : ((r + t) % (mems ds).length + 1) % (mems ds).length = (r + (t + 1)) % (mems ds).length := by rw [Nat.mod_add_mod]; rfl
  have e2 : (mems ds)[((r + t) % (mems ds).length + 1) % (mems ds).length]'(next_lt hl) = ⟨x, v⟩ := by
    have := hx
    rw [← e1, List.getElem?_eq_getElem (next_lt hl)] at this
    exact Option.some.inj this
  rw [e2]

set_option maxHeartbeats 8000000 in
theorem walk (A : Option Addr) (n c : Nat) (zs : List Int) (w : World) (h : SB w w.heap.size A n c zs) :
    Calls Try.prog 14 #[.slice A n c] w fun e w' => e = .returned (.bool true) ∧ Below w.heap.size w w' := by
  have hm := h.max
  have hcap := h.cap
  unfold maxLen at hm
  have HS0 := Lib.hid h
  clear h
  by_cases hbig : 1048576 < (n : Int)
  · go_enter Try.func14, Try.ntmps14
    go_wp2
    go_ret
    exact ⟨rfl, Below.refl _ _⟩
  go_enter Try.func14, Try.ntmps14
  go_wp2_with fail
  refine (drawNextMember_any A n c zs _ HS0.out).mono ?_
  rintro e w1 ⟨Ae, ce, ds, s, rfl, hsz, hn, hsm, hs, hb⟩
  have c2 : (w1.alloc (.cells #[.slice Ae ds.length ce] 28)).cell? ⟨w1.heap.size, 0, none⟩ = some (.slice Ae ds.length ce) := by simp [go_sem]
  have HB2 : Hid (Below w.heap.size w (w1.alloc (.cells #[.slice Ae ds.length ce] 28))) := Lib.hid (hb.alloc hb.size _)
  have HS2 : Hid (SD (w1.alloc (.cells #[.slice Ae ds.length ce] 28)) (w1.alloc (.cells #[.slice Ae ds.length ce] 28)).heap.size Ae ds.length ce ds) := Lib.hid ((hs.alloc (Nat.le_refl _) _).call (by simp))
  have HSM := Lib.hid hsm
  have HOK : Hid (∀ d ∈ ds, d.ok) := Lib.hid (fun d hd => small_ok (hsm d hd))
  clear hb hs hsm
  by_cases hbad : vEnum ds = false ∨ fidx (isNm s) ds < 0
  · generalize hv : vEnum ds = v at hbad
    generalize hx : fidx (isNm s) ds = x at hbad
    have HV := Lib.hid hv
    have HX := Lib.hid hx
    have HH := Lib.hid hbad
    clear hv hx hbad
    go_wp2_with fail
    refine (implNext_no ds s _ _ _ _ HS2.out HV.out HX.out HH.out).mono ?_
    rintro e w3 ⟨rfl, hb⟩
    have c3 := keep1 hb c2
    have HB3 : Hid (Below w.heap.size w w3) := Lib.hid (HB2.out.trans (hb.mono HB2.out.size))
    have HS3 := Lib.hid ((HS2.out.below hb).call hb.size)
    clear hb c2 HB2 HS2
    go_wp2_with fail
    refine (specNext_no ds s _ _ _ _ HS3.out HV.out HX.out HH.out).mono ?_
    rintro e w4 ⟨rfl, hb⟩
    have c4 := keep1 hb c3
    have HB4 : Hid (Below w.heap.size w w4) := Lib.hid (HB3.out.trans (hb.mono HB3.out.size))
    have HS4 := Lib.hid ((HS3.out.below hb).call hb.size)
    clear hb c3 HB3 HS3
    go_wp2
    go_ret
    exact ⟨rfl, HB4.out⟩

  have hv : vEnum ds = true := by cases h : vEnum ds; exact absurd (.inl h) hbad; rfl
  obtain ⟨k0, hk0, hx⟩ : ∃ k : Nat, ∃ hk : k < ds.length, fidx (isNm s) ds = (k : Int) := by
    rcases fidx_cases (isNm s) ds with ⟨h1, _⟩ | ⟨k, hk, h1, _⟩
    · exact absurd (.inr (by omega)) hbad
    · exact ⟨k, hk, h1⟩
  obtain ⟨r, hr, hrk⟩ := rank_in k0 hk0
  have h0m : 0 < (mems ds).length := by omega
  have hat0 : At ds r 0 s := ⟨k0, hk0, hx, by rw [hrk, Nat.add_zero, Nat.mod_eq_of_lt hr]⟩
  have hnx : ∀ q, q < (mems ds).length → ∃ (x : ByteArray) (v : Int), (mems ds)[q]? = some (⟨x, v⟩ : D) := fun q hq => ⟨(mems ds)[q].name, (mems ds)[q].val, by rw [List.getElem?_eq_getElem hq]⟩
  obtain ⟨x1, v1, hx1⟩ := hnx ((r + (0 + 1)) % (mems ds).length) (Nat.mod_lt _ h0m)
  have HV := Lib.hid hv
  have HX := Lib.hid hx
  have HRK := Lib.hid hrk
  have HAT0 := Lib.hid hat0
  have HNX := Lib.hid hnx
  have HX1 := Lib.hid hx1
  have H0M := Lib.hid h0m
  have hml : (mems ds).length ≤ 25 := Nat.le_trans mems_len hn
  have hlen : (mMembers ds).length = (mems ds).length := by rw [mMembers_yes hv, List.length_map]
  have HG : Hid (∀ (q : Nat) (x : ByteArray) (v : Int), (mems ds)[q]? = some (⟨x, v⟩ : D) → (mMembers ds)[q]? = some x) := Lib.hid (fun q x v h => by rw [mMembers_yes hv, List.getElem?_map, h]; rfl)
  have HAny : Hid ((mMembers ds).any (hT x1) = true) := Lib.hid (by rw [List.any_eq_true]; exact ⟨x1, List.mem_of_getElem? (HG.out _ _ _ hx1), hT_iff.2 rfl⟩)
  have hmm := mMembers_ok HOK.out
  generalize hms : mMembers ds = ms at hlen HG HAny hmm
  have HMS := Lib.hid hms
  have HOM := Lib.hid hmm
  have HLEN := Lib.hid hlen
  have hrl : r < ms.length := by omega
  have hml2 : ms.length ≤ 25 := by omega
  clear hv hx hrk hat0 hnx hx1 h0m hbad hml hlen hms hmm hr
  go_wp2_with fail
  refine (implNext_w ds s _ _ _ _ HS2.out HV.out HAT0.out H0M.out HX1.out).mono ?_
  rintro e w3 ⟨rfl, hb⟩
  have c3 := keep1 hb c2
  have HB3 : Hid (Below w.heap.size w w3) := Lib.hid (HB2.out.trans (hb.mono HB2.out.size))
  have HS3 := Lib.hid ((HS2.out.below hb).call hb.size)
  clear hb c2 HB2 HS2
  go_wp2_with fail
  refine (specNext_w ds s _ _ _ _ HS3.out HV.out HAT0.out H0M.out HX1.out).mono ?_
  rintro e w4 ⟨rfl, hb⟩
  have c4 := keep1 hb c3
  have HB4 : Hid (Below w.heap.size w w4) := Lib.hid (HB3.out.trans (hb.mono HB3.out.size))
  have HS4 := Lib.hid ((HS3.out.below hb).call hb.size)
  clear hb c3 HB3 HS3
  go_wp2_with fail
  refine (implMembersOf_v ds _ _ _ _ HS4.out HMS.out).mono ?_
  rintro e w5 ⟨A5, d5, rfl, ho, hb⟩
  have c5 := keep1 hb c4
  have HB5 : Hid (Below w.heap.size w w5) := Lib.hid (HB4.out.trans (hb.mono HB4.out.size))
  have HS5 := Lib.hid ((HS4.out.below hb).call hb.size)
  have HX5 := Lib.hid (ss_of_own ho HOM.out)
  clear ho hb c4 HB4 HS4
  go_wp2_with fail
  generalize hG : w1.heap.size = G at *
  clear hG
  go_loopw [9, 11] (fun nw i wr => ∃ (k : Nat) (x : ByteArray), k ≤ ms.length ∧ i = .int .i64 k ∧ nw = .string x ∧ Hid (At ds r k x) ∧ Hid (k = 0 ∨ ∃ v, (mems ds)[(r + k) % (mems ds).length]? = some ⟨x, v⟩) ∧ Hid (Below w.heap.size w wr) ∧ Hid (wr.cell? ⟨G, 0, none⟩ = some (.slice Ae ds.length ce)) ∧ Hid (SD wr wr.heap.size Ae ds.length ce ds) ∧ Hid (SS wr wr.heap.size A5 ms.length d5 ms)) (fun _ i _ => ms.length - (intOf i).toNat)
  case atStart => exact ⟨0, s, Nat.zero_le _, rfl, rfl, HAT0, Lib.hid (.inl rfl), HB5, Lib.hid c5, HS5, HX5⟩
  case round =>
    obtain ⟨k, x, hk, rfl, rfl, hat, hlast, hbel, hce, hsd, hss⟩ := hrel
    have c7 := hce.out
    clear c5 HB5 HS5 HX5
    by_cases hlt : k < ms.length
    · obtain ⟨y, v, hy⟩ := HNX.out ((r + (k + 1)) % (mems ds).length) (Nat.mod_lt _ H0M.out)
      have HY := Lib.hid hy
      have hq := Nat.mod_lt (r + (k + 1)) H0M.out
      have HAT : Hid (At ds r (k + 1) y) := Lib.hid (by
        have := at_step HV.out hq (r := r) (t := k + 1) rfl
        rw [List.getElem?_eq_getElem hq] at hy
        rw [Option.some.inj hy] at this
        exact this)
      have hi1 : (k : Int) < (ms.length : Int) := by omega
      clear hy hq
      go_wp2_with fail
      refine (implNext_w ds x _ _ _ _ hsd.out HV.out hat.out H0M.out HY.out).mono ?_
      rintro e w8 ⟨rfl, hb⟩
      have HB8 : Hid (Below w.heap.size w w8) := Lib.hid (hbel.out.trans (hb.mono hbel.out.size))
      have HS8 := Lib.hid ((hsd.out.below hb).call hb.size)
      have HX8 := Lib.hid ((hss.out.below hb).call hb.size)
      have HC8 := Lib.hid (keep1 hb c7)
      clear hb c7 hbel hsd hss hce
      go_wp2
      go_roundw
      case rel => exact ⟨k + 1, y, by omega, by go_num, rfl, HAT, Lib.hid (.inr ⟨v, HY.out⟩), HB8, HC8, HS8, HX8⟩
      case measure => simp [intOf]; omega
    · obtain rfl : k = ms.length := by omega
      have hxr : ms[r] = x := by
        rcases hlast.out with h | ⟨v, h⟩
        · omega
        · rw [← HLEN.out, Nat.add_mod_right, Nat.mod_eq_of_lt hrl] at h
          have := HG.out _ _ _ h
          rw [List.getElem?_eq_getElem hrl] at this
          exact Option.some.inj this
      have hi1 : (r : Int) < (ms.length : Int) := by omega
      have hi0 : (0 : Int) ≤ (r : Int) := by omega
      go_wp2_with fail
      refine (implRankOf_w ds s _ _ _ _ hsd.out HV.out k0 hk0 HX.out HRK.out).mono ?_
      rintro e w8 ⟨rfl, hb⟩
      have HB8 : Hid (Below w.heap.size w w8) := Lib.hid (hbel.out.trans (hb.mono hbel.out.size))
      have HX8 := Lib.hid ((hss.out.below hb).call hb.size)
      clear hb
      obtain ⟨b, o, rfl, hbb, x8⟩ := HX8.out.at_ hrl
      rw [hxr] at x8
      clear hxr
      go_wp2_with fail
      refine (hasText_any ms _ _ _ _ _ HX8.out HAny.out).mono ?_
      rintro e w9 ⟨rfl, hb⟩
      have HB9 : Hid (Below w.heap.size w w9) := Lib.hid (HB8.out.trans (hb.mono HB8.out.size))
      clear hb
      go_wp2
      go_ret
      exact ⟨rfl, HB9.out⟩

set_option maxRecDepth 100000 in
theorem lifted (os : Os) (started : os.Started) (H : Type) (enc : TypeId × Value → H) :
    ReturnsInHanded {} Try.checked os 14 .any (Rows.fnNextMemberSpec.pre6 enc Try.prog Try.f14 Rows.fnNextMemberRow.domain false) (Rows.fnNextMemberSpec.post enc Try.prog Try.f14 false true false false) := by
  refine returnsInHanded_of_change (C := Try.checked) own started (by kernel_rfl) Try.func14
    (ChangeSpec.witness6 (enc := enc) (C := Try.checked) false ⟨#[], #[.slice none 0 0], []⟩ 8 (by kernel_rfl) (by kernel_rfl) (by kernel_rfl) (by kernel_rfl)) ?_
  intro W base args ds gs before hval0 hW hcnd _
  have hval : ∀ (j : Nat) t v, Try.f14.params[j]? = some t → args[j]? = some v → Value.okWide Try.prog W .any base t v := hval0
  have hW' := hW
  obtain ⟨p, q, hA0, hV, rfl, hfz, hnd⟩ := hW
  have hA : DataW.TrodAll enc Try.prog W 0 (fun _ => true) true Try.f14.params.toList args.toList ds p := hA0
  rw [Try.params14] at hA hval
  obtain ⟨v0, vs0, d0, ds0, p0, q0, hargs, rfl, rfl, h0, r0⟩ := trodAll_cons hA
  obtain ⟨rfl, rfl, rfl⟩ := trodAll_nil r0
  obtain rfl : args = #[v0] := by cases args; simp_all
  obtain ⟨rfl, rfl⟩ := trodVars_none hV
  have k0 := h0
  have lt0 : ∀ x ∈ p0, x.block < W.heap.size := by obtain ⟨m, hm⟩ := k0; exact DataW.trod_lt m _ _ _ hm
  obtain ⟨A0, n0, c0, l0, rfl, w0⟩ := open_code (hval 0 22 v0 rfl rfl) h0
  clear hA0 hval0
  refine (walk A0 n0 c0 l0 W w0).mono fun e W' ⟨he, bel⟩ => ?_
  subst he
  exact ⟨_, rfl, _, _, _, [], _, [], hW', trodAll_mk1 (shut_bool Try.underlying4 _), (trodAll_cons_mk (Below.trod laidOut (by kernel_rfl) (of_decide_eq_true (by kernel_rfl)) k0 bel lt0) trodAll_mk0), rfl, bel.frame _, fun h => by cases h⟩

theorem over : Rows.fnNextMemberRow.holds Try.pinned (OpenSpec.ofChange Rows.fnNextMemberSpec) :=
  OpenClaim.holds_of_wide 14 Try.f14 rfl rfl rfl rfl rfl rfl rfl ⟨rfl, rfl, rfl, rfl, rfl⟩ rfl rfl rfl rfl rfl (by kernel_rfl) Try.func14 (by kernel_rfl)
    (of_decide_eq_true (by kernel_rfl)) (by unfold Func.isWrapper; first | (rw [if_pos (by decide +kernel)]; kernel_rfl) | (rw [if_neg (by decide +kernel)]; exact ⟨rfl, rfl⟩))
    (fun os started H enc _ => lifted os started H enc)

theorem proved : Rows.FnNextMemberSaid := over
end Go.Proofs.Ytjccnahebafepaa.fnNextMember
