import Derived.Test.YtiebdhbioccogaaGreatDoorBaseE
namespace Go.Proofs.YtiebdhbioccogaaGreatDoor
open Go.RowKit Go.Maps
set_option linter.unusedVariables false
set_option maxRecDepth 100000

/-! ### ExactName -/
def mExOk (ds : List D) (b x : Int) : Bool := vFlag ds b && decide (0 ≤ fidx (isVal x) ds)
def mExN (ds : List D) (b x : Int) : ByteArray := if mExOk ds b x then (ds[(fidx (isVal x) ds).toNat]?).elim ByteArray.empty D.name else ByteArray.empty
theorem mEx_no {ds : List D} {b x : Int} (h : mExOk ds b x = false) : mExN ds b x = ByteArray.empty := by unfold mExN; rw [h]; rfl
theorem mEx_yes {ds : List D} {b x : Int} (hv : vFlag ds b = true) {j : Nat} (hj : j < ds.length) (h : fidx (isVal x) ds = j) : mExOk ds b x = true ∧ mExN ds b x = ds[j].name := by
  have h1 : mExOk ds b x = true := by unfold mExOk; rw [hv, h, decide_eq_true (by omega)]; rfl
  refine ⟨h1, ?_⟩
  unfold mExN; rw [h1, if_pos rfl, h, Int.toNat_natCast, List.getElem?_eq_getElem hj]; rfl
set_option maxHeartbeats 2000000 in
theorem implExact_v (ds : List D) (b x : Int) (A : Option Addr) (n c : Nat) (w : World) (hr : SD w w.heap.size A n c ds) (hn : n ≤ 1048576) (hx : -9223372036854775808 ≤ x ∧ x ≤ 9223372036854775807) {s : ByteArray} {v : Bool} (hs : mExN ds b x = s) (hv : mExOk ds b x = v) :
    Calls Tryz.prog 152 #[.agg #[.slice A n c, .int .i64 b], .int .i64 x] w fun e w' => e = .returned (.tuple #[.string s, .bool v]) ∧ Below w.heap.size w w' := by
  subst hs hv
  have HML : Hid (ds.length = n) := Lib.hid hr.len
  have HF := Lib.hid (FB.start hr b)
  clear hr
  cases hu : vFlag ds b
  · have HU := Lib.hid hu
    have hok : mExOk ds b x = false := by unfold mExOk; rw [hu]; rfl
    have HM : Hid (mExN ds b x = ByteArray.empty ∧ mExOk ds b x = false) := Lib.hid ⟨mEx_no hok, hok⟩
    clear hu hok
    go_enter Tryz.func152, Tryz.ntmps152
    go_wp2_with fail
    refine (classOf_no ds b _ _ _ _ HF.out.sd hn HU.out).mono ?_
    rintro e w1 ⟨rfl, hb⟩
    have HB1 := Lib.hid (HF.out.after hb)
    have hst := st_nilFunc
    clear hb
    go_wp2
    go_ret2
    exact ⟨by rw [HM.out.1, HM.out.2]; first | done | rfl, HB1.out.alloc HB1.out.size _⟩
  have HU := Lib.hid hu
  obtain ⟨fid, hfid⟩ := bdF_form b
  obtain ⟨wh, hwh⟩ : ∃ wh, mWhole ds b = wh := ⟨_, rfl⟩
  have HFID := Lib.hid hfid
  have HWH := Lib.hid hwh
  clear hfid hwh hu
  go_enter Tryz.func152, Tryz.ntmps152
  go_wp2_with fail
  refine (classOf_x ds b _ _ _ _ HF.out.sd HU.out HFID.out HWH.out).mono ?_
  rintro e w1 ⟨rfl, hb⟩
  have HF1 := Lib.hid (HF.out.call hb)
  have HK := Lib.hid (FC.start HF1.out fid wh)
  have hst := st_func
  have k0 := HK.out.c0
  clear hb HF HF1
  go_wp2_with fail
  clear k0
  generalize hW : (w1.alloc (.cells #[.slice A n c, .func (.func fid) #[] #[], .int .i64 wh] 175)) = W at *
  generalize hG : w1.heap.size = G at *
  clear hW hG
  refine (memberIndexes_any ds _ _ _ _ HK.out.sd).mono ?_
  rintro e w2 ⟨rfl, hi, hb⟩
  have HI := Lib.hid hi
  have HK2 := Lib.hid (HK.out.call hb)
  clear hi hb HK
  generalize W.heap.size = Z at *
  rcases fidx_cases (isVal x) ds with ⟨hj, _⟩ | ⟨j, hjl, hj, _, _⟩
  · have hok : mExOk ds b x = false := by unfold mExOk; rw [decide_eq_false (by omega), Bool.and_false]
    have HM : Hid (mExN ds b x = ByteArray.empty ∧ mExOk ds b x = false) := Lib.hid ⟨mEx_no hok, hok⟩
    have hlk := HI.out.look_no x hx (by omega)
    clear hj hok
    go_wp2
    go_ret2
    exact ⟨by rw [HM.out.1, HM.out.2]; first | done | rfl, HK2.out.bel⟩
  · obtain ⟨h1, h2⟩ := mEx_yes HU.out hjl hj
    have HM : Hid (mExN ds b x = ds[j].name ∧ mExOk ds b x = true) := Lib.hid ⟨h2, h1⟩
    have hlk := HI.out.look_yes x hx (by omega)
    rw [hj] at hlk
    have hi1 : (j : Int) < (n : Int) := by have := HML.out; omega
    have d0 := HK2.out.c0
    obtain ⟨bd, od, rfl, hbd, d2, d3⟩ := HK2.out.sd.at_ hjl
    clear hj h1 h2
    go_wp2
    go_ret2
    exact ⟨by rw [HM.out.1, HM.out.2]; first | done | rfl, HK2.out.bel⟩
theorem mExN_ok {ds : List D} {b x : Int} (h : ∀ d ∈ ds, d.ok) : (mExN ds b x).size ≤ maxLen := by
  unfold mExN
  split
  · cases hg : ds[(fidx (isVal x) ds).toNat]? with
    | none => exact Nat.zero_le _
    | some d => exact (h d (List.mem_of_getElem? hg)).1
  · exact Nat.zero_le _
end Go.Proofs.YtiebdhbioccogaaGreatDoor
