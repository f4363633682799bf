import Derived.Test.YtkholjcmaebaaaaDiffP
import Derived.Test.YtkholjcmaebaaaaBaseC
import Derived.Test.YtkholjcmaebaaaaCatK
namespace Go.Proofs.Ytkholjcmaebaaaa
open Go.RowKit
set_option linter.unusedVariables false
set_option maxRecDepth 100000

set_option maxHeartbeats 16000000 in
theorem differ_any (ds es : List D) (A B : Option Addr) (n c m e : Nat) (w : World) (ha : SD w w.heap.size A n c ds) (hb : SD w w.heap.size B m e es) (hn : n ≤ 100) (hm : m ≤ 100) :
    Calls Try.prog 159 #[.slice A n c, .slice B m e] w (FreshK (mDiff ds es) w) := by
  obtain rfl := ha.len
  obtain rfl := hb.len
  have hl := ha.max
  have hl2 := ha.cap
  have hl3 := hb.max
  have hl4 := hb.cap
  unfold maxLen at hl hl3
  have HA := Lib.hid ha
  have HB := Lib.hid hb
  clear ha hb
  go_enter Try.func159, Try.ntmps159
  go_wp2
  have H0 : Hid (Below w.heap.size w (w.alloc (.cells #[] 137))) := Lib.hid ((Below.refl _ _).alloc (Nat.le_refl _) _)
  have H1 : Hid ((w.alloc (.cells #[] 137)).ownsRow w.heap.size 137 4 (.slice (some ⟨w.heap.size, 0, none⟩) 0 0) 0 []) := Lib.hid (World.ownsRow_made w #[] 0 (Nat.le_refl _) (by unfold maxLen; omega) rfl)
  go_loopw [5, 6] (fun v i wr => ∃ k q : Nat, k ≤ ds.length ∧ i = .int .i64 k ∧ Hid (q = (([] : List Ch) ++ (ds.take k).flatMap (dropF es)).length) ∧ q ≤ 0 + k ∧ Hid (wr.ownsRow w.heap.size 137 4 v q (flatK (([] : List Ch) ++ (ds.take k).flatMap (dropF es)))) ∧ Hid (Below w.heap.size w wr)) (fun _ i _ => ds.length - (intOf i).toNat)
  case atStart => exact ⟨0, 0, Nat.zero_le _, rfl, Lib.hid (by rfl), by omega, Lib.hid (by exact H1.out), H0⟩
  case round =>
    clear H1 H0
    obtain ⟨k, q, hk, rfl, hq, hqk, hown, hbel⟩ := hrel
    by_cases hlt : k < ds.length
    · have HSB := Lib.hid ((HB.out.below hbel.out).call hbel.out.size)
      have HF : Hid ((([] : List Ch) ++ (ds.take (k + 1)).flatMap (dropF es)) = (([] : List Ch) ++ (ds.take k).flatMap (dropF es)) ++ dropF es ds[k]) := Lib.hid (by rw [fm_snoc (dropF es) ds k hlt]; simp only [List.append_assoc])
      have hi1 : (k : Int) < (ds.length : Int) := by omega
      have hi0 : (0 : Int) ≤ (k : Int) := by omega
      rcases fidx_cases (isNm ds[k].name) es with ⟨hx, _⟩ | ⟨j, hj, hx, _⟩
      · have HD := Lib.hid (dropF_yes (b := es) (d := ds[k]) (by omega))
        obtain ⟨b, o, rfl, hbb, c1, c2⟩ := (HA.out.below hbel.out).at_ hlt
        have HX := Lib.hid hx
        clear hx
        generalize ds[k] = d at *
        go_wp2_with (go_at_call 143; refine (indexOf_v es _ _ _ _ _ HSB.out HX.out).mono ?_; rintro e w' ⟨rfl, rfl⟩)
        go_region_held3 (fun w' => w'.cell? ⟨b, o + k * 2, none⟩ = some (.string d.name) ∧ w'.cell? ⟨b, o + k * 2 + 1, none⟩ = some (.int .i64 d.val))
          (first | exact ⟨c1, c2⟩ | exact ⟨keepA c1, keepA c2⟩ | exact ⟨(hbV.cell (p := ⟨b, o + k * 2, none⟩) hbb).trans c1, (hbV.cell (p := ⟨b, o + k * 2 + 1, none⟩) hbb).trans c2⟩)
          (first
            | (refine step_app_Kd rfl _ _ rfl w.heap.size _ q _ rfl hown.out 1 d.name d.val 0 1 rfl (by omega) hbel.out.size ?_; intro v' w4 ho4 hg4; obtain ⟨A4, c4, rfl⟩ := own_form ho4; have hbV : Below w.heap.size wr w4 := (Below.refl w.heap.size wr).grown hg4 hbel.out.size (fun q hq => (hown.out.lt q hq).1)))
        have HO4 := Lib.hid ho4
        have HBV : Hid (Below w.heap.size w w4) := Lib.hid (hbel.out.trans hbV)
        clear ho4 hbV hg4
        go_wp2
        go_roundw
        case rel => exact ⟨k + 1, q + 1, by omega, by go_num, Lib.hid (by rw [HF.out, HD.out, List.length_append, ← hq.out]; rfl), by omega, Lib.hid (by rw [HF.out, HD.out, flatK_app]; exact HO4.out), HBV⟩
        case measure => simp [intOf]; omega
      · have HD := Lib.hid (dropF_no (d := ds[k]) hj hx)
        obtain ⟨b, o, rfl, hbb, c1, c2⟩ := (HA.out.below hbel.out).at_ hlt
        have HX := Lib.hid hx
        have hneg : ¬ ((j : Int) < 0) := by omega
        clear hx
        generalize ds[k] = d at *
        go_wp2_with (go_at_call 143; refine (indexOf_v es _ _ _ _ _ HSB.out HX.out).mono ?_; rintro e w' ⟨rfl, rfl⟩)
        go_roundw
        case rel => exact ⟨k + 1, q, by omega, by go_num, Lib.hid (by rw [HF.out, HD.out, List.append_nil]; exact hq.out), by omega, Lib.hid (by rw [HF.out, HD.out, List.append_nil]; exact hown.out), hbel⟩
        case measure => simp [intOf]; omega
    · obtain rfl : k = ds.length := by omega
      have HO1 := hown
      have HB1 := hbel
      have HQ1 := hq
      rw [List.take_of_length_le (Nat.le_refl _)] at HO1 HQ1
      rw [List.nil_append] at HO1 HQ1
      clear hown hbel hq
      obtain ⟨wo1, hwo⟩ : ∃ W : World, W = wr := ⟨_, rfl⟩
      subst hwo
      obtain ⟨q1, hqq⟩ : ∃ Q : Nat, Q = q := ⟨_, rfl⟩
      subst hqq
      go_wp2
      go_loopw [5, 7] (fun v i wr => ∃ k q : Nat, k ≤ ds.length ∧ i = .int .i64 k ∧ Hid (q = (ds.flatMap (dropF es) ++ (ds.take k).flatMap (turnF es)).length) ∧ q ≤ ds.length + k ∧ Hid (wr.ownsRow w.heap.size 137 4 v q (flatK (ds.flatMap (dropF es) ++ (ds.take k).flatMap (turnF es)))) ∧ Hid (Below w.heap.size w wr)) (fun _ i _ => ds.length - (intOf i).toNat)
      case atStart => exact ⟨0, q1, Nat.zero_le _, rfl, Lib.hid (by rw [HQ1.out]; simp), by omega, Lib.hid (by rw [List.take_zero, List.flatMap_nil, List.append_nil]; exact HO1.out), HB1⟩
      case round =>
        clear HO1 HB1 HQ1
        obtain ⟨k, q, hk, rfl, hq, hqk, hown, hbel⟩ := hrel
        by_cases hlt : k < ds.length
        · have HSB := Lib.hid ((HB.out.below hbel.out).call hbel.out.size)
          have HF : Hid ((ds.flatMap (dropF es) ++ (ds.take (k + 1)).flatMap (turnF es)) = (ds.flatMap (dropF es) ++ (ds.take k).flatMap (turnF es)) ++ turnF es ds[k]) := Lib.hid (by rw [fm_snoc (turnF es) ds k hlt]; simp only [List.append_assoc])
          have hi1 : (k : Int) < (ds.length : Int) := by omega
          have hi0 : (0 : Int) ≤ (k : Int) := by omega
          rcases fidx_cases (isNm ds[k].name) es with ⟨hx, _⟩ | ⟨j, hj, hx, _⟩
          · have HD := Lib.hid (turnF_none (b := es) (d := ds[k]) (by omega))
            obtain ⟨b, o, rfl, hbb, c1, c2⟩ := (HA.out.below hbel.out).at_ hlt
            have HX := Lib.hid hx
            clear hx
            generalize ds[k] = d at *
            go_wp2_with (go_at_call 143; refine (indexOf_v es _ _ _ _ _ HSB.out HX.out).mono ?_; rintro e w' ⟨rfl, rfl⟩)
            go_quiet (fail)
            go_wp2
            go_roundw
            case rel => exact ⟨k + 1, q, by omega, by go_num, Lib.hid (by rw [HF.out, HD.out, List.append_nil]; exact hq.out), by omega, Lib.hid (by rw [HF.out, HD.out, List.append_nil]; exact hown.out), Lib.hid (below_drewN hbel.out _)⟩
            case measure => simp [intOf]; omega
          · by_cases hv : es[j].val = ds[k].val
            · have HD := Lib.hid (turnF_same (d := ds[k]) hj hx hv)
              have hne : (es[j].val != ds[k].val) = false := by simp [hv]
              have hb2 : (0 : Int) ≤ (j : Int) := by omega
              have hb3 : (j : Int) < (es.length : Int) := by omega
              obtain ⟨b, o, rfl, hbb, c1, c2⟩ := (HA.out.below hbel.out).at_ hlt
              obtain ⟨b2, o2, rfl, hbb2, c3, c4⟩ := (HB.out.below hbel.out).at_ hj
              have HX := Lib.hid hx
              clear hx
              clear hv
              generalize ds[k] = d at *
              generalize es[j] = d2 at *
              go_wp2_with (go_at_call 143; refine (indexOf_v es _ _ _ _ _ HSB.out HX.out).mono ?_; rintro e w' ⟨rfl, rfl⟩)
              go_quiet (fail)
              go_wp2
              go_roundw
              case rel => exact ⟨k + 1, q, by omega, by go_num, Lib.hid (by rw [HF.out, HD.out, List.append_nil]; exact hq.out), by omega, Lib.hid (by rw [HF.out, HD.out, List.append_nil]; exact hown.out), Lib.hid (below_drewN hbel.out _)⟩
              case measure => simp [intOf]; omega
            · have HD := Lib.hid (turnF_other (d := ds[k]) hj hx hv)
              have hne : (es[j].val != ds[k].val) = true := by simp [hv]
              have hb2 : (0 : Int) ≤ (j : Int) := by omega
              have hb3 : (j : Int) < (es.length : Int) := by omega
              obtain ⟨b, o, rfl, hbb, c1, c2⟩ := (HA.out.below hbel.out).at_ hlt
              obtain ⟨b2, o2, rfl, hbb2, c3, c4⟩ := (HB.out.below hbel.out).at_ hj
              have HX := Lib.hid hx
              clear hx
              clear hv
              generalize ds[k] = d at *
              generalize es[j] = d2 at *
              go_wp2_with (go_at_call 143; refine (indexOf_v es _ _ _ _ _ HSB.out HX.out).mono ?_; rintro e w' ⟨rfl, rfl⟩)
              go_quiet (fail)
              go_wp2_with fail
              have HOD := Lib.hid (own_drewN hown.out nq)
              have HBD := Lib.hid (below_drewN hbel.out nq)
              have e1 : (wr.drewN nq).cell? ⟨b, o + k * 2, none⟩ = some (.string d.name) := c1
              have e2 : (wr.drewN nq).cell? ⟨b, o + k * 2 + 1, none⟩ = some (.int .i64 d.val) := c2
              have e4 : (wr.drewN nq).cell? ⟨b2, o2 + j * 2 + 1, none⟩ = some (.int .i64 d2.val) := c4
              clear c1 c2 c3 c4 hown hbel
              generalize wr.drewN nq = wd at *
              go_region_held3 (fun w' => w'.cell? ⟨b, o + k * 2, none⟩ = some (.string d.name) ∧ w'.cell? ⟨b, o + k * 2 + 1, none⟩ = some (.int .i64 d.val) ∧ w'.cell? ⟨b2, o2 + j * 2 + 1, none⟩ = some (.int .i64 d2.val))
                (first | exact ⟨e1, e2, e4⟩ | exact ⟨keepA e1, keepA e2, keepA e4⟩ | exact ⟨(hbV.cell (p := ⟨b, o + k * 2, none⟩) hbb).trans e1, (hbV.cell (p := ⟨b, o + k * 2 + 1, none⟩) hbb).trans e2, (hbV.cell (p := ⟨b2, o2 + j * 2 + 1, none⟩) hbb2).trans e4⟩)
                (first
                  | (refine step_app_Kd rfl _ _ rfl w.heap.size _ q _ rfl HOD.out 2 d.name d.val d2.val 1 rfl (by omega) HBD.out.size ?_; intro v' w4 ho4 hg4; obtain ⟨A4, c4, rfl⟩ := own_form ho4; have hbV : Below w.heap.size wd w4 := (Below.refl w.heap.size wd).grown hg4 HBD.out.size (fun q hq => (HOD.out.lt q hq).1)))
              have HO4 := Lib.hid ho4
              have HBV : Hid (Below w.heap.size w w4) := Lib.hid (HBD.out.trans hbV)
              clear ho4 hbV hg4
              go_wp2
              go_roundw
              case rel => exact ⟨k + 1, q + 1, by omega, by go_num, Lib.hid (by rw [HF.out, HD.out, List.length_append, ← hq.out]; rfl), by omega, Lib.hid (by rw [HF.out, HD.out, flatK_app]; exact HO4.out), HBV⟩
              case measure => simp [intOf]; omega
        · obtain rfl : k = ds.length := by omega
          have HO2 := hown
          have HB2 := hbel
          have HQ2 := hq
          rw [List.take_of_length_le (Nat.le_refl _)] at HO2 HQ2
          clear hown hbel hq
          obtain ⟨wo2, hwo⟩ : ∃ W : World, W = wr := ⟨_, rfl⟩
          subst hwo
          obtain ⟨q2, hqq⟩ : ∃ Q : Nat, Q = q := ⟨_, rfl⟩
          subst hqq
          go_wp2
          go_loopw [5, 9] (fun v i wr => ∃ k q : Nat, k ≤ es.length ∧ i = .int .i64 k ∧ Hid (q = ((ds.flatMap (dropF es) ++ ds.flatMap (turnF es)) ++ (es.take k).flatMap (addF ds)).length) ∧ q ≤ ds.length + ds.length + k ∧ Hid (wr.ownsRow w.heap.size 137 4 v q (flatK ((ds.flatMap (dropF es) ++ ds.flatMap (turnF es)) ++ (es.take k).flatMap (addF ds)))) ∧ Hid (Below w.heap.size w wr)) (fun _ i _ => es.length - (intOf i).toNat)
          case atStart => exact ⟨0, q2, Nat.zero_le _, rfl, Lib.hid (by rw [HQ2.out]; simp), by omega, Lib.hid (by rw [List.take_zero, List.flatMap_nil, List.append_nil]; exact HO2.out), HB2⟩
          case round =>
            clear HO2 HB2 HQ2
            obtain ⟨k, q, hk, rfl, hq, hqk, hown, hbel⟩ := hrel
            by_cases hlt : k < es.length
            · have HSB := Lib.hid ((HA.out.below hbel.out).call hbel.out.size)
              have HF : Hid (((ds.flatMap (dropF es) ++ ds.flatMap (turnF es)) ++ (es.take (k + 1)).flatMap (addF ds)) = ((ds.flatMap (dropF es) ++ ds.flatMap (turnF es)) ++ (es.take k).flatMap (addF ds)) ++ addF ds es[k]) := Lib.hid (by rw [fm_snoc (addF ds) es k hlt]; simp only [List.append_assoc])
              have hi1 : (k : Int) < (es.length : Int) := by omega
              have hi0 : (0 : Int) ≤ (k : Int) := by omega
              rcases fidx_cases (isNm es[k].name) ds with ⟨hx, _⟩ | ⟨j, hj, hx, _⟩
              · have HD := Lib.hid (addF_yes (b := ds) (d := es[k]) (by omega))
                obtain ⟨b, o, rfl, hbb, c1, c2⟩ := (HB.out.below hbel.out).at_ hlt
                have HX := Lib.hid hx
                clear hx
                generalize es[k] = d at *
                go_wp2_with (go_at_call 143; refine (indexOf_v ds _ _ _ _ _ HSB.out HX.out).mono ?_; rintro e w' ⟨rfl, rfl⟩)
                go_region_held3 (fun w' => w'.cell? ⟨b, o + k * 2, none⟩ = some (.string d.name) ∧ w'.cell? ⟨b, o + k * 2 + 1, none⟩ = some (.int .i64 d.val))
                  (first | exact ⟨c1, c2⟩ | exact ⟨keepA c1, keepA c2⟩ | exact ⟨(hbV.cell (p := ⟨b, o + k * 2, none⟩) hbb).trans c1, (hbV.cell (p := ⟨b, o + k * 2 + 1, none⟩) hbb).trans c2⟩)
                  (first
                    | (refine step_app_Kd rfl _ _ rfl w.heap.size _ q _ rfl hown.out 0 d.name 0 d.val 1 rfl (by omega) hbel.out.size ?_; intro v' w4 ho4 hg4; obtain ⟨A4, c4, rfl⟩ := own_form ho4; have hbV : Below w.heap.size wr w4 := (Below.refl w.heap.size wr).grown hg4 hbel.out.size (fun q hq => (hown.out.lt q hq).1)))
                have HO4 := Lib.hid ho4
                have HBV : Hid (Below w.heap.size w w4) := Lib.hid (hbel.out.trans hbV)
                clear ho4 hbV hg4
                go_wp2
                go_roundw
                case rel => exact ⟨k + 1, q + 1, by omega, by go_num, Lib.hid (by rw [HF.out, HD.out, List.length_append, ← hq.out]; rfl), by omega, Lib.hid (by rw [HF.out, HD.out, flatK_app]; exact HO4.out), HBV⟩
                case measure => simp [intOf]; omega
              · have HD := Lib.hid (addF_no (d := es[k]) hj hx)
                obtain ⟨b, o, rfl, hbb, c1, c2⟩ := (HB.out.below hbel.out).at_ hlt
                have HX := Lib.hid hx
                have hneg : ¬ ((j : Int) < 0) := by omega
                clear hx
                generalize es[k] = d at *
                go_wp2_with (go_at_call 143; refine (indexOf_v ds _ _ _ _ _ HSB.out HX.out).mono ?_; rintro e w' ⟨rfl, rfl⟩)
                go_roundw
                case rel => exact ⟨k + 1, q, by omega, by go_num, Lib.hid (by rw [HF.out, HD.out, List.append_nil]; exact hq.out), by omega, Lib.hid (by rw [HF.out, HD.out, List.append_nil]; exact hown.out), hbel⟩
                case measure => simp [intOf]; omega
            · obtain rfl : k = es.length := by omega
              go_wp2
              go_ret
              obtain ⟨A', c', hv⟩ := own_form hown.out
              subst hv
              have h2 := hown.out
              rw [List.take_of_length_le (Nat.le_refl _)] at h2
              have h3 := hq.out
              rw [List.take_of_length_le (Nat.le_refl _)] at h3
              rw [h3] at h2 ⊢
              exact ⟨A', c', rfl, h2, hbel.out⟩
end Go.Proofs.Ytkholjcmaebaaaa
