import Derived.Test.YtkholjcmaebaaaaArmS
import Derived.Test.YtkholjcmaebaaaaBaseC
import Derived.Deep.RegionHeld3
namespace Go.Proofs.Ytkholjcmaebaaaa
open Go.RowKit Go.Maps
set_option linter.unusedVariables false
set_option maxRecDepth 100000

/-! ### the model's functions on lists of arms -/
def ArN (a : Ar) : Prop := ∃ p q : Nat, a.all = p ∧ a.non = q ∧ p < 4096 ∧ q < 4096
theorem arN_fits {m : Nat} {a : Ar} (h : fitsA m a = true) (hm : m < 4096) : ArN a := by
  obtain ⟨p, q, h1, h2, h3, h4, _⟩ := fitsA_nat h hm
  exact ⟨p, q, h1, h2, h3, h4⟩
theorem matchA_is {a : Ar} {p q : Nat} (h1 : a.all = p) (h2 : a.non = q) (n : Nat) : matchA n a = matchN p q n := by unfold matchA; rw [h1, h2, Int.toNat_natCast, Int.toNat_natCast]
theorem arms_nat {ds : List D} {b : Int} {rs : List Ar} (h : mArms ds b rs = true) : ∀ a ∈ rs, ArN a := fun a ha => arN_fits (mArms_fits h a ha) (mMask_lt12 (vFlag_in (mArms_flag h)))

set_option maxHeartbeats 2000000 in
theorem specFirstA_v (rs : List Ar) (n : Nat) (A : Option Addr) (q c : Nat) (w : World) (hr : SA w w.heap.size A q c rs) (hin : ∀ a ∈ rs, ArN a) (hn : n < 4096) {v : Int} (hv : firstA rs n = v) :
    Calls Try.prog 94 #[.slice A q c, .int .i64 n] w fun e w' => e = .returned (.int .i64 v) ∧ Below w.heap.size w w' := by
  subst hv
  obtain rfl := hr.len
  have hl := hr.max
  have hl2 := hr.cap
  unfold maxLen at hl
  have HR := Lib.hid hr
  have HIN := Lib.hid hin
  clear hr hin
  unfold firstA
  go_enter Try.func94, Try.ntmps94
  go_wp2
  go_loopw [5] (fun i wr => ∃ k : Nat, k ≤ rs.length ∧ i = .int .i64 k ∧ Hid (noTo (matchA n) rs k) ∧ Hid (Below w.heap.size w wr)) (fun i _ => rs.length - (intOf i).toNat)
  case atStart => exact ⟨0, Nat.zero_le _, rfl, Lib.hid (noTo_zero _ _), Lib.hid (Below.refl _ _)⟩
  case round =>
    obtain ⟨k, hk, rfl, hok, hbel⟩ := hrel
    by_cases hlt : k < rs.length
    · obtain ⟨b, o, rfl, hb, c1, c2⟩ := (HR.out.below hbel.out).at_ hlt
      obtain ⟨x, y, h1, h2, hx4, hy4⟩ := HIN.out _ (List.getElem_mem hlt)
      have hi1 : (k : Int) < (rs.length : Int) := by omega
      have HP0 := Lib.hid (matchA_is h1 h2 n)
      rw [h1] at c1
      rw [h2] at c2
      clear h1 h2
      cases hp : matchN x y n
      all_goals
        have HP := Lib.hid hp
        clear hp
        go_wp2_with (go_at_call 152; refine (specMatches_v x y n _ hx4 hy4 hn HP.out).mono ?_; rintro e w1 ⟨rfl, hb1⟩; have HB1 := Lib.hid hb1; clear hb1)
      · go_roundw
        case rel => exact ⟨k + 1, by omega, by go_num, Lib.hid (noTo_succ hok.out hlt (by rw [HP0.out]; exact HP.out)), Lib.hid (hbel.out.trans (HB1.out.mono hbel.out.size))⟩
        case measure => simp [intOf]; omega
      · go_ret
        exact ⟨ret_int (fidx_some hok.out hlt (by rw [HP0.out]; exact HP.out)).symm, hbel.out.trans (HB1.out.mono hbel.out.size)⟩
    · obtain rfl : k = rs.length := by omega
      go_wp2
      go_ret
      exact ⟨ret_int (fidx_none hok.out).symm, hbel.out⟩

set_option maxHeartbeats 8000000 in
theorem validArms_v (ds : List D) (b : Int) (rs : List Ar) (A : Option Addr) (m c : Nat) (w : World) (hr : SD w w.heap.size A m c ds) (As : Option Addr) (q cs : Nat) (hs : SA w w.heap.size As q cs rs) {v : Bool} (hm : mArms ds b rs = v) :
    Calls Try.prog 93 #[.agg #[.slice A m c, .int .i64 b], .slice As q cs] w (fun e w' => e = .returned (.bool v) ∧ Below w.heap.size w w') := by
  subst hm
  have hl := hs.max
  have hl2 := hs.cap
  unfold maxLen at hl
  obtain rfl := hs.len
  have HF := Lib.hid (FB.start hr b)
  have HSA : Hid (SA (w.alloc (.cells #[.slice A m c, .int .i64 b] 25)) w.heap.size As rs.length cs rs) := Lib.hid (hs.below ((Below.refl _ _).alloc (Nat.le_refl _) _))
  clear hr hs
  cases hall : rs.all (fun a => mArm ds b a)
  · have HM : Hid (mArms ds b rs = false) := Lib.hid (by
      cases h : mArms ds b rs
      · rfl
      · exfalso
        rw [List.all_eq_false] at hall
        obtain ⟨a, ha, hn⟩ := hall
        exact hn (by unfold mArm; rw [mArms_flag h, mArms_fits h a ha]; rfl))
    have HNALL : Hid (¬ ∀ l (h : l < rs.length), mArm ds b rs[l] = true) := Lib.hid (fun h => by
      rw [List.all_eq_false] at hall
      obtain ⟨a, ha, hn⟩ := hall
      obtain ⟨l, hl, rfl⟩ := List.mem_iff_getElem.1 ha
      exact hn (h l hl))
    clear hall
    go_enter Try.func93, Try.ntmps93
    go_wp2
    go_loopw [5] (fun i wr => ∃ (j : Nat), j ≤ rs.length ∧ i = .int .i64 j ∧ Hid (∀ l (h : l < rs.length), l < j → mArm ds b rs[l] = true) ∧ Hid (FB w wr w.heap.size A m c ds b) ∧ Hid (SA wr w.heap.size As rs.length cs rs)) (fun i _ => rs.length - (intOf i).toNat)
    case atStart => exact ⟨0, Nat.zero_le _, rfl, Lib.hid (fun l hl h => by omega), HF, HSA⟩
    case round =>
      clear HF HSA
      obtain ⟨j, hj, rfl, hok, hf, hsa⟩ := hrel
      by_cases hlt : j < rs.length
      · obtain ⟨bb, o, hA, hbb, d1, d2⟩ := (hsa.out.call hf.out.bel.size).at_ hlt
        subst hA
        have hi1 : (j : Int) < (rs.length : Int) := by omega
        have hi0 : (0 : Int) ≤ (j : Int) := by omega
        have c0 := hf.out.c0
        have c1 := hf.out.c1
        obtain ⟨a, ha⟩ : ∃ a, rs[j] = a := ⟨_, rfl⟩
        obtain ⟨u, hu⟩ : ∃ u, mArm ds b rs[j] = u := ⟨_, rfl⟩
        have HU := Lib.hid hu
        rw [ha] at d1 d2
        have HUA : Hid (mArm ds b ⟨a.all, a.non⟩ = u) := Lib.hid (by rw [← ha]; exact hu)
        have HS := Lib.hid hf.out.sd
        clear hu ha
        go_wp2_with fail
        go_region_held3 (fun w' => w'.cell? ⟨w.heap.size, 0, none⟩ = some (.slice A m c) ∧ w'.cell? ⟨w.heap.size, 1, none⟩ = some (.int .i64 b) ∧ w'.cell? ⟨bb, o + j * 2, none⟩ = some (.int .i64 a.all) ∧ w'.cell? ⟨bb, o + j * 2 + 1, none⟩ = some (.int .i64 a.non))
          (first | go_keep | exact ⟨c0, c1, d1, d2⟩ | exact ⟨y0, y1, y2, y3⟩)
          (first
            | (go_at_call 151; refine (validArm_v ds b a.all a.non _ _ _ _ (HS.out.drewN 1) HUA.out).mono ?_; rintro e w7 ⟨rfl, hb⟩; replace hb : Below wr.heap.size wr w7 := (by first | exact hb | exact undrew hb); have y0 := keep1 hb c0; have y1 := keep1 hb c1; have y2 := keep1 hb d1; have y3 := keep1 hb d2))
        have HF7 := Lib.hid (hf.out.call hb)
        have HS7 := Lib.hid (hsa.out.below' hb hf.out.bel.size)
        clear hb y0 y1 y2 y3 c0 c1 d1 d2 hf hsa HS
        cases u
        · go_wp2
          go_ret
          exact ⟨by rw [HM.out]; first | done | rfl, HF7.out.bel⟩
        · go_wp2
          go_roundw
          case rel => exact ⟨j + 1, by omega, by go_num, Lib.hid (fun l hl h => by
            by_cases e : l = j
            · subst e; exact HU.out
            · exact hok.out l hl (by omega)), HF7, HS7⟩
          case measure => simp [intOf]; omega
      · obtain rfl : j = rs.length := by omega
        exact absurd (fun l hl => hok.out l hl hl) HNALL.out
  · have HALL : Hid (∀ l (h : l < rs.length), mArm ds b rs[l] = true) := Lib.hid (fun l hl => by
      rw [List.all_eq_true] at hall
      exact hall _ (List.getElem_mem hl))
    obtain ⟨v, hv⟩ : ∃ v, vFlag ds b = v := ⟨_, rfl⟩
    have HV := Lib.hid hv
    have HM : Hid (mArms ds b rs = (v && decide (rs.length ≤ 10))) := Lib.hid (by
      unfold mArms
      rw [hv]
      cases v
      · rfl
      · have : rs.all (fitsA (mMask ds)) = true := by
          rw [List.all_eq_true] at hall ⊢
          exact fun a ha => mArm_fits (hall a ha)
        rw [this]; simp)
    clear hall hv
    go_enter Try.func93, Try.ntmps93
    go_wp2
    go_loopw [5] (fun i wr => ∃ (j : Nat), j ≤ rs.length ∧ i = .int .i64 j ∧ Hid (∀ l (h : l < rs.length), l < j → mArm ds b rs[l] = true) ∧ Hid (FB w wr w.heap.size A m c ds b) ∧ Hid (SA wr w.heap.size As rs.length cs rs)) (fun i _ => rs.length - (intOf i).toNat)
    case atStart => exact ⟨0, Nat.zero_le _, rfl, Lib.hid (fun l hl h => by omega), HF, HSA⟩
    case round =>
      clear HF HSA
      obtain ⟨j, hj, rfl, hok, hf, hsa⟩ := hrel
      by_cases hlt : j < rs.length
      · obtain ⟨bb, o, hA, hbb, d1, d2⟩ := (hsa.out.call hf.out.bel.size).at_ hlt
        subst hA
        have hi1 : (j : Int) < (rs.length : Int) := by omega
        have hi0 : (0 : Int) ≤ (j : Int) := by omega
        have c0 := hf.out.c0
        have c1 := hf.out.c1
        obtain ⟨a, ha⟩ : ∃ a, rs[j] = a := ⟨_, rfl⟩
        obtain ⟨u, hu⟩ : ∃ u, mArm ds b rs[j] = u := ⟨_, rfl⟩
        have HU := Lib.hid hu
        rw [ha] at d1 d2
        have HUA : Hid (mArm ds b ⟨a.all, a.non⟩ = u) := Lib.hid (by rw [← ha]; exact hu)
        have HS := Lib.hid hf.out.sd
        clear hu ha
        go_wp2_with fail
        go_region_held3 (fun w' => w'.cell? ⟨w.heap.size, 0, none⟩ = some (.slice A m c) ∧ w'.cell? ⟨w.heap.size, 1, none⟩ = some (.int .i64 b) ∧ w'.cell? ⟨bb, o + j * 2, none⟩ = some (.int .i64 a.all) ∧ w'.cell? ⟨bb, o + j * 2 + 1, none⟩ = some (.int .i64 a.non))
          (first | go_keep | exact ⟨c0, c1, d1, d2⟩ | exact ⟨y0, y1, y2, y3⟩)
          (first
            | (go_at_call 151; refine (validArm_v ds b a.all a.non _ _ _ _ (HS.out.drewN 1) HUA.out).mono ?_; rintro e w7 ⟨rfl, hb⟩; replace hb : Below wr.heap.size wr w7 := (by first | exact hb | exact undrew hb); have y0 := keep1 hb c0; have y1 := keep1 hb c1; have y2 := keep1 hb d1; have y3 := keep1 hb d2))
        have HF7 := Lib.hid (hf.out.call hb)
        have HS7 := Lib.hid (hsa.out.below' hb hf.out.bel.size)
        clear hb y0 y1 y2 y3 c0 c1 d1 d2 hf hsa HS
        cases u
        · go_wp2
          go_ret
          exact absurd (HALL.out j hlt) (by rw [HU.out]; decide)
        · go_wp2
          go_roundw
          case rel => exact ⟨j + 1, by omega, by go_num, Lib.hid (fun l hl h => by
            by_cases e : l = j
            · subst e; exact HU.out
            · exact hok.out l hl (by omega)), HF7, HS7⟩
          case measure => simp [intOf]; omega
      · obtain rfl : j = rs.length := by omega
        have HS := Lib.hid hf.out.sd
        have c0 := hf.out.c0
        have c1 := hf.out.c1
        by_cases h10 : rs.length ≤ 10
        · have hle : (rs.length : Int) ≤ 10 := by omega
          cases v
          all_goals
            go_wp2_with (go_at_call 78; refine (specVF_v ds b _ _ _ _ HS.out HV.out).mono ?_; rintro e w1 ⟨rfl, hb⟩; have HB1 := Lib.hid (hf.out.after hb); clear hb)
            go_ret
            exact ⟨by rw [HM.out]; first | done | rfl | (simp [h10]; done) | (simp; omega), HB1.out⟩
        · have hle : ¬ (rs.length : Int) ≤ 10 := by omega
          cases v
          all_goals
            go_wp2_with (go_at_call 78; refine (specVF_v ds b _ _ _ _ HS.out HV.out).mono ?_; rintro e w1 ⟨rfl, hb⟩; have HB1 := Lib.hid (hf.out.after hb); clear hb)
            go_ret
            exact ⟨by rw [HM.out]; first | done | rfl | (simp [h10]; done) | (simp; omega), HB1.out⟩

set_option maxHeartbeats 4000000 in
theorem specFirst_v (ds : List D) (b : Int) (rs : List Ar) (z : Int) (A : Option Addr) (m c : Nat) (w : World) (hr : SD w w.heap.size A m c ds) (As : Option Addr) (q cs : Nat) (hs : SA w w.heap.size As q cs rs) {r : Int} (hm : mFirst ds b rs z = r) :
    Calls Try.prog 23 #[.agg #[.slice A m c, .int .i64 b], .slice As q cs, .int .i64 z] w (fun e w' => e = .returned (.int .i64 r) ∧ Below w.heap.size w w') := by
  subst hm
  have hl := hs.max
  have hl2 := hs.cap
  unfold maxLen at hl
  obtain rfl := hs.len
  have HF := Lib.hid (FB.start hr b)
  have HSA : Hid (SA (w.alloc (.cells #[.slice A m c, .int .i64 b] 25)) w.heap.size As rs.length cs rs) := Lib.hid (hs.below ((Below.refl _ _).alloc (Nat.le_refl _) _))
  clear hr hs
  cases hv : mArms ds b rs
  · have HV := Lib.hid hv
    have HM : Hid (mFirst ds b rs z = -2) := Lib.hid (if_no (by rw [hv]; rfl))
    clear hv
    go_enter Try.func23, Try.ntmps23
    go_wp2_with fail
    generalize (w.alloc (.cells #[.slice A m c, .int .i64 b] 25)) = w0 at *
    refine (validArms_v ds b rs _ _ _ _ HF.out.sd _ _ _ (HSA.out.call HF.out.bel.size) HV.out).mono ?_
    rintro e w1 ⟨rfl, hb⟩
    have HB1 := Lib.hid (HF.out.after hb)
    clear hb
    go_wp2
    go_ret
    exact ⟨by rw [HM.out]; first | done | rfl, HB1.out⟩
  have HV := Lib.hid hv
  have HNAT := Lib.hid (arms_nat hv)
  obtain ⟨u, hu⟩ : ∃ u, mIsV ds b z = u := ⟨_, rfl⟩
  have HU := Lib.hid hu
  cases u
  · have HM : Hid (mFirst ds b rs z = -2) := Lib.hid (if_no (by rw [hu, Bool.and_false]))
    clear hu hv
    go_enter Try.func23, Try.ntmps23
    go_wp2_with fail
    generalize (w.alloc (.cells #[.slice A m c, .int .i64 b] 25)) = w0 at *
    refine (validArms_v ds b rs _ _ _ _ HF.out.sd _ _ _ (HSA.out.call HF.out.bel.size) HV.out).mono ?_
    rintro e w1 ⟨rfl, hb⟩
    have HF1 := Lib.hid (HF.out.call hb)
    have HS1 := Lib.hid (HSA.out.below' hb HF.out.bel.size)
    clear hb HF HSA
    have c0 := HF1.out.c0
    have c1 := HF1.out.c1
    go_wp2_with fail
    refine (specIsV_v ds b _ _ _ _ _ HF1.out.sd HU.out).mono ?_
    rintro e w2 ⟨rfl, hb⟩
    have HF2 := Lib.hid (HF1.out.call hb)
    have HS2 := Lib.hid (HS1.out.below' hb HF1.out.bel.size)
    clear hb HF1 HS1 c0 c1
    go_wp2
    go_ret
    exact ⟨by rw [HM.out]; first | done | rfl, HF2.out.bel⟩
  · obtain ⟨n, rfl, hn4⟩ := mIsV_nat hu
    obtain ⟨r, hr⟩ : ∃ r, firstA rs n = r := ⟨_, rfl⟩
    have HR := Lib.hid hr
    have HM : Hid (mFirst ds b rs n = r) := Lib.hid (by unfold mFirst; rw [hu, hv, ← hr]; rfl)
    clear hu hv hr
    go_enter Try.func23, Try.ntmps23
    go_wp2_with fail
    generalize (w.alloc (.cells #[.slice A m c, .int .i64 b] 25)) = w0 at *
    refine (validArms_v ds b rs _ _ _ _ HF.out.sd _ _ _ (HSA.out.call HF.out.bel.size) HV.out).mono ?_
    rintro e w1 ⟨rfl, hb⟩
    have HF1 := Lib.hid (HF.out.call hb)
    have HS1 := Lib.hid (HSA.out.below' hb HF.out.bel.size)
    clear hb HF HSA
    have c0 := HF1.out.c0
    have c1 := HF1.out.c1
    go_wp2_with fail
    refine (specIsV_v ds b _ _ _ _ _ HF1.out.sd HU.out).mono ?_
    rintro e w2 ⟨rfl, hb⟩
    have HF2 := Lib.hid (HF1.out.call hb)
    have HS2 := Lib.hid (HS1.out.below' hb HF1.out.bel.size)
    clear hb HF1 HS1 c0 c1
    go_wp2_with (go_at_call 94; refine (specFirstA_v rs n _ _ _ _ (HS2.out.call HF2.out.bel.size) HNAT.out hn4 HR.out).mono ?_; rintro e w3 ⟨rfl, hb⟩; have HB3 := Lib.hid (HF2.out.after hb); clear hb)
    go_ret
    exact ⟨by rw [HM.out]; first | done | rfl, HB3.out⟩

set_option maxHeartbeats 2000000 in
theorem partsIn_any (p : Nat) (w : World) (hp : p < 4096) : Calls Try.prog 97 #[.int .i64 p] w (IntsP (partsTo p (p + 1)) w) := by
  go_enter Try.func97, Try.ntmps97
  go_wp2_with fail
  have hb : Below w.heap.size w (w.alloc (.cells #[] 3)) := (Below.refl _ _).alloc (Nat.le_refl _) _
  have ho : (w.alloc (.cells #[] 3)).ownsRow w.heap.size 3 1 (.slice (some ⟨w.heap.size, 0, none⟩) 0 0) (partsTo p 0).length (flatI (partsTo p 0)) := World.ownsRow_made w #[] 0 (Nat.le_refl _) (by unfold maxLen; omega) rfl
  have hs : w.heap.size ≤ (w.alloc (.cells #[] 3)).heap.size := by simp
  generalize (w.alloc (.cells #[] 3)) = w2 at *
  have HB2 := Lib.hid hb
  have HO2 := Lib.hid ho
  clear hb ho
  go_wp2
  go_loopw [3, 4] (fun v i wr => ∃ k : Nat, k ≤ p + 1 ∧ i = .int .i64 k ∧ Hid (wr.ownsRow w.heap.size 3 1 v (partsTo p k).length (flatI (partsTo p k))) ∧ Hid (Below w.heap.size w wr)) (fun _ i _ => p + 1 - (intOf i).toNat)
  case atStart => exact ⟨0, Nat.zero_le _, rfl, HO2, HB2⟩
  case round =>
    clear HO2 HB2
    obtain ⟨k, hk, rfl, hown, hbel⟩ := hrel
    by_cases hlt : k ≤ p
    · have hk4 : k < 4096 := by omega
      have hle : (k : Int) ≤ (p : Int) := by omega
      have HT := Lib.hid (partsTo_succ p k)
      have HL := Lib.hid (partsTo_len p k)
      obtain ⟨z, hz⟩ : ∃ z, nl k p = z := ⟨_, rfl⟩
      have HZ := Lib.hid hz
      have HC : Hid (partN p k = decide (z = 0)) := Lib.hid (by unfold partN; rw [hz])
      clear hz
      by_cases h0 : z = 0
      · have HTT : Hid (partsTo p (k + 1) = partsTo p k ++ [(k : Int)]) := Lib.hid (by rw [HT.out, HC.out, decide_eq_true h0]; rfl)
        subst h0
        go_wp2_with (first | (go_at_call 80; refine (less_any k p _ hk4 hp HZ.out).mono ?_; rintro e w3 ⟨rfl, rfl⟩) | (at_builtin; refine wpList_app_I rfl _ _ rfl _ _ _ _ rfl hown.out _ _ _ rfl (by first | rfl | simp) (by have := HL.out; omega) hbel.out.size ?_; intro v' w4 ho1 hb1; have HO1 := Lib.hid ho1; have HB4 := Lib.hid hb1; clear ho1 hb1))
        go_roundw
        case rel => exact ⟨k + 1, by omega, by go_num, Lib.hid (by rw [HTT.out, List.length_append]; simpa [flatI] using HO1.out), Lib.hid (hbel.out.trans HB4.out)⟩
        case measure => simp [intOf]; omega
      · have HTT : Hid (partsTo p (k + 1) = partsTo p k) := Lib.hid (by rw [HT.out, HC.out, decide_eq_false h0]; simp)
        have e2 : ((z : Int) == 0) = false := by rw [beq_eq_false_iff_ne]; omega
        go_wp2_with (go_at_call 80; refine (less_any k p _ hk4 hp HZ.out).mono ?_; rintro e w3 ⟨rfl, rfl⟩)
        go_roundw
        case rel => exact ⟨k + 1, by omega, by go_num, Lib.hid (by rw [HTT.out]; exact hown.out), hbel⟩
        case measure => simp [intOf]; omega
    · obtain rfl : k = p + 1 := by omega
      have hle : ¬ (((p + 1 : Nat) : Int) ≤ (p : Int)) := by omega
      go_wp2
      go_ret
      obtain ⟨A', c', hv⟩ := own_form hown.out
      subst hv
      exact ⟨A', c', rfl, hown.out, hbel.out⟩

set_option maxHeartbeats 4000000 in
theorem specMissed_v (ds : List D) (b : Int) (rs : List Ar) (A : Option Addr) (m c : Nat) (w : World) (hr : SD w w.heap.size A m c ds) (As : Option Addr) (q cs : Nat) (hs : SA w w.heap.size As q cs rs) {r : Int} (hm : mMissed ds b rs = r) :
    Calls Try.prog 27 #[.agg #[.slice A m c, .int .i64 b], .slice As q cs] w (fun e w' => e = .returned (.int .i64 r) ∧ Below w.heap.size w w') := by
  subst hm
  have hl := hs.max
  have hl2 := hs.cap
  unfold maxLen at hl
  obtain rfl := hs.len
  have HF := Lib.hid (FB.start hr b)
  have HSA : Hid (SA (w.alloc (.cells #[.slice A m c, .int .i64 b] 25)) w.heap.size As rs.length cs rs) := Lib.hid (hs.below ((Below.refl _ _).alloc (Nat.le_refl _) _))
  clear hr hs
  cases hv : mArms ds b rs
  · have HV := Lib.hid hv
    have HM : Hid (mMissed ds b rs = -2) := Lib.hid (if_no hv)
    clear hv
    go_enter Try.func27, Try.ntmps27
    go_wp2_with fail
    generalize (w.alloc (.cells #[.slice A m c, .int .i64 b] 25)) = w0 at *
    refine (validArms_v ds b rs _ _ _ _ HF.out.sd _ _ _ (HSA.out.call HF.out.bel.size) HV.out).mono ?_
    rintro e w1 ⟨rfl, hb⟩
    have HB1 := Lib.hid (HF.out.after hb)
    clear hb
    go_wp2
    go_ret
    exact ⟨by rw [HM.out]; first | done | rfl, HB1.out⟩
  have HV := Lib.hid hv
  have HNAT := Lib.hid (arms_nat hv)
  have HIN := Lib.hid (vFlag_in (mArms_flag hv))
  obtain ⟨k, hk⟩ : ∃ k, mMask ds = k := ⟨_, rfl⟩
  have hk4 : k < 4096 := by rw [← hk]; exact mMask_lt12 HIN.out
  have HMM := Lib.hid hk
  obtain ⟨ms, hms⟩ : ∃ ms, partsTo k (k + 1) = ms := ⟨_, rfl⟩
  have HM : Hid (mMissed ds b rs = (ms.find? (fun n => decide (firstA rs n.toNat < 0))).getD (-1)) := Lib.hid (by unfold mMissed; rw [hv, if_pos rfl, hk, missTo_list, hms])
  have HPI : Hid (∀ w : World, Calls Try.prog 97 #[.int .i64 k] w (IntsP ms w)) := Lib.hid (by rw [← hms]; exact fun w => partsIn_any k w hk4)
  have HMEM : Hid (∀ t ∈ ms, ∃ n : Nat, t = n ∧ n < 4096) := Lib.hid (by
    intro t ht
    rw [← hms] at ht
    unfold partsTo at ht
    obtain ⟨n, hn, rfl⟩ := List.mem_map.1 ht
    have := List.mem_range.1 (List.mem_filter.1 hn).1
    exact ⟨n, rfl, by omega⟩)
  have OKM : Hid (∀ s ∈ ms, -9223372036854775808 ≤ s ∧ s ≤ 9223372036854775807) := Lib.hid (by rw [← hms]; exact partsTo_rng (by omega))
  have hml : ms.length ≤ 4096 := by rw [← hms]; have := partsTo_len k (k + 1); omega
  clear hv hk hms
  go_enter Try.func27, Try.ntmps27
  go_wp2_with fail
  generalize (w.alloc (.cells #[.slice A m c, .int .i64 b] 25)) = w0 at *
  refine (validArms_v ds b rs _ _ _ _ HF.out.sd _ _ _ (HSA.out.call HF.out.bel.size) HV.out).mono ?_
  rintro e w1 ⟨rfl, hb⟩
  have HF1 := Lib.hid (HF.out.call hb)
  have HS1 := Lib.hid (HSA.out.below' hb HF.out.bel.size)
  clear hb HF HSA
  have c0 := HF1.out.c0
  have c1 := HF1.out.c1
  go_wp2_with fail
  refine (mask_any ds _ _ _ _ HF1.out.sd HIN.out HMM.out).mono ?_
  rintro e w' ⟨rfl, rfl⟩
  go_wp2_with fail
  refine (HPI.out _).mono ?_
  rintro e w2 ⟨A2, c2, rfl, ho, hb⟩
  have HB2 := Lib.hid (HF1.out.after hb)
  have HS2 := Lib.hid (HS1.out.below' hb HF1.out.bel.size)
  have HI2 := Lib.hid (si_of_own ho OKM.out)
  clear hb ho HF1 HS1 c0 c1
  go_wp2
  go_loopw [6] (fun i wr => ∃ (j : Nat), j ≤ ms.length ∧ i = .int .i64 j ∧ Hid (∀ l (h : l < ms.length), l < j → ¬ firstA rs ms[l].toNat < 0) ∧ Hid (Below w.heap.size w wr) ∧ Hid (SA wr w.heap.size As rs.length cs rs) ∧ Hid (SI wr wr.heap.size A2 ms.length c2 ms)) (fun i _ => ms.length - (intOf i).toNat)
  case atStart => exact ⟨0, Nat.zero_le _, rfl, Lib.hid (fun l hl h => by omega), HB2, HS2, HI2⟩
  case round =>
    clear HB2 HS2 HI2
    obtain ⟨j, hj, rfl, hok, hbel, hsa, hsi⟩ := hrel
    by_cases hlt : j < ms.length
    · obtain ⟨bb, o, hA, hbb, d1⟩ := hsi.out.at_ hlt
      subst hA
      obtain ⟨n, hn, hn4⟩ := HMEM.out _ (List.getElem_mem hlt)
      rw [hn] at d1
      have hi1 : (j : Int) < (ms.length : Int) := by omega
      obtain ⟨r, hr⟩ : ∃ r, firstA rs n = r := ⟨_, rfl⟩
      have HR := Lib.hid hr
      have HN := Lib.hid hn
      clear hr hn
      go_wp2_with fail
      refine (specFirstA_v rs n _ _ _ _ (hsa.out.call hbel.out.size) HNAT.out hn4 HR.out).mono ?_
      rintro e w7 ⟨rfl, hb⟩
      have HB7 : Hid (Below w.heap.size w w7) := Lib.hid (hbel.out.trans (hb.mono hbel.out.size))
      have HS7 := Lib.hid (hsa.out.below' hb hbel.out.size)
      have HI7 := Lib.hid ((hsi.out.below hb).call hb.size)
      have d7 := keep1 hb d1
      clear hb d1 hbel hsa hsi
      by_cases h0 : r < 0
      · have HM2 : Hid (mMissed ds b rs = (n : Int)) := Lib.hid (by
          rw [HM.out]
          have : ms.find? (fun n => decide (firstA rs n.toNat < 0)) = some (n : Int) := by
            rw [List.find?_eq_some_iff_getElem]
            refine ⟨by rw [Int.toNat_natCast, HR.out]; exact decide_eq_true h0, j, hlt, HN.out, fun l hl => ?_⟩
            have := hok.out l (by omega) hl
            simp; omega
          rw [this]; rfl)
        go_wp2
        go_ret
        exact ⟨by rw [HM2.out]; first | done | rfl, HB7.out⟩
      · go_wp2
        go_roundw
        case rel => exact ⟨j + 1, by omega, by go_num, Lib.hid (fun l hl h => by
          by_cases e : l = j
          · subst e; rw [HN.out, Int.toNat_natCast, HR.out]; omega
          · have := hok.out l hl (by omega); omega), HB7, HS7, HI7⟩
        case measure => simp [intOf]; omega
    · obtain rfl : j = ms.length := by omega
      have HM2 : Hid (mMissed ds b rs = -1) := Lib.hid (by
        rw [HM.out]
        have : ms.find? (fun n => decide (firstA rs n.toNat < 0)) = none := by
          rw [List.find?_eq_none]
          intro t ht
          obtain ⟨l, hl, rfl⟩ := List.mem_iff_getElem.1 ht
          have := hok.out l hl hl
          simp; omega
        rw [this]; rfl)
      go_wp2
      go_ret
      exact ⟨by rw [HM2.out]; first | done | rfl, hbel.out⟩

end Go.Proofs.Ytkholjcmaebaaaa
