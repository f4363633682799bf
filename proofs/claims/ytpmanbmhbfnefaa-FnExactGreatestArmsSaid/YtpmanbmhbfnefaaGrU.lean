import Derived.Test.YtpmanbmhbfnefaaGrR
import Derived.Test.YtpmanbmhbfnefaaGrS
import Derived.Test.YtpmanbmhbfnefaaBaseR
import Derived.Deep.LoopGhost
namespace Go.Proofs.Ytpmanbmhbfnefaa
open Go.RowKit Go.Maps
set_option linter.unusedVariables false
set_option linter.unusedSimpArgs false
set_option maxRecDepth 100000

/-! ### the program's row of all arms: a box of 4096 bools -/
structure BX (w : World) (g : Nat) (F : Nat → Bool) : Prop where
  c : ∀ j, j < 4096 → w.cell? ⟨g, j, none⟩ = some (.bool (F j))
  lt : g < w.heap.size
theorem BX.low {w w' : World} {g B : Nat} {F : Nat → Bool} (h : BX w g F) (hb : Below B w w') (hg : g < B) : BX w' g F :=
  ⟨fun j hj => (hb.cell (p := ⟨g, j, none⟩) hg).trans (h.c j hj), Nat.lt_of_lt_of_le h.lt hb.size⟩
theorem BX.below {w w' : World} {g : Nat} {F : Nat → Bool} (h : BX w g F) (hb : Below w.heap.size w w') : BX w' g F := h.low hb h.lt
theorem bx_new (w : World) (wv : Array Value) (t : TypeId) (F : Nat → Bool) (h : ∀ j, j < 4096 → wv[j]? = some (.bool (F j))) : BX (w.alloc (.cells wv t)) w.heap.size F := by
  refine ⟨fun j hj => ?_, by simp⟩
  have := h j hj
  simp [go_sem, this]
theorem flatW_snoc {all list : List Int} {k : Nat} (hk : k < all.length) : ((all.take (k + 1)).flatMap fun p => rowW all list p all) = ((all.take k).flatMap fun p => rowW all list p all) ++ rowW all list all[k] all := by
  rw [List.take_succ_eq_append_getElem hk, List.flatMap_append]
  simp only [List.flatMap_cons, List.flatMap_nil, List.append_nil]
theorem rowW_len (all list qs : List Int) (p : Int) : (rowW all list p qs).length ≤ qs.length := by
  unfold rowW
  rw [List.length_map]
  exact List.length_filter_le _ _
theorem flatW_len {all list : List Int} : ∀ ps : List Int, (ps.flatMap fun p => rowW all list p all).length ≤ ps.length * all.length
  | [] => by simp
  | p :: ps => by
    have h1 := flatW_len (all := all) (list := list) ps
    have h2 := rowW_len all list all p
    rw [List.flatMap_cons, List.length_append, List.length_cons, Nat.succ_mul]
    omega

set_option maxHeartbeats 16000000 in
theorem armsWithin_any (all list : List Int) (A : Option Addr) (n c : Nat) (wv : Array Value) (F : Nat → Bool) (w : World) (ha : SI w w.heap.size A n c all) (hin : ∀ x ∈ all, ∃ t : Nat, x = (t : Int) ∧ t < 4096) (h64 : all.length ≤ 64) (hwv : ∀ j, j < 4096 → wv[j]? = some (.bool (F j))) (hF : ∀ t : Nat, t < 4096 → F t = list.any fun y => decide (y = (t : Int))) {rs : List Ar} (hrs : (all.flatMap fun p => rowW all list p all) = rs) :
    Calls Try.prog 74 #[.slice A n c, .agg wv] w (ArmsP rs w) := by
  obtain rfl := ha.len
  have hl := ha.max
  have hl2 := ha.cap
  unfold maxLen at hl
  obtain ⟨w0, hw⟩ : ∃ W : World, W = (w.alloc (.cells wv 114)) := ⟨_, rfl⟩
  have hb0 : Below w.heap.size w w0 := by rw [hw]; exact (Below.refl _ _).alloc (Nat.le_refl _) _
  have HX_0 : Hid (BX w0 w.heap.size F) := Lib.hid (by rw [hw]; exact bx_new w wv _ F hwv)
  have HA_0 : Hid (SI w0 w.heap.size A all.length c all) := Lib.hid (ha.below hb0)
  have HB_0 := Lib.hid hb0
  have HR_0 : Hid (w0.ownsRow (w.heap.size + 1) 72 2 (.slice none 0 0) ((all.take 0).flatMap fun p => rowW all list p all).length (flatA ((all.take 0).flatMap fun p => rowW all list p all))) := Lib.hid (World.ownsRow_nil _ _ _ _)
  have HIN := Lib.hid hin
  have HFF := Lib.hid hF
  have HRS := Lib.hid hrs
  have HW0 : Hid ((w.alloc (.cells wv 114)) = w0) := Lib.hid hw.symm
  clear ha hin hF hrs hw hb0 hwv
  go_enter Try.func74, Try.ntmps74
  go_wp2
  rw [HW0.out]
  clear HW0
  go_loopg [5, 15] all.length (fun g v i wr => ∃ k : Nat, k + g = all.length ∧ i = .int .i64 k ∧ Hid (wr.ownsRow (w.heap.size + 1) 72 2 v ((all.take k).flatMap fun p => rowW all list p all).length (flatA ((all.take k).flatMap fun p => rowW all list p all))) ∧ Hid (BX wr w.heap.size F) ∧ Hid (SI wr w.heap.size A all.length c all) ∧ Hid (Below w.heap.size w wr))
  case atStart => exact ⟨0, by omega, rfl, HR_0, HX_0, HA_0, HB_0⟩
  case round =>
    clear HR_0 HX_0 HA_0 HB_0
    obtain ⟨k, hkg, rfl, HR_1, HX_1, HA_1, HB_1⟩ := hrel
    cases gk with
    | zero =>
      obtain rfl : k = all.length := by omega
      have hk9 : ¬ (all.length : Int) < (all.length : Int) := by omega
      have HE : Hid (all.take all.length = all) := Lib.hid (List.take_of_length_le (Nat.le_refl _))
      rw [HE.out, HRS.out] at HR_1
      obtain ⟨AX, cX, hvx⟩ := own_form HR_1.out
      subst hvx
      go_wp2
      go_ret
      exact ⟨AX, cX, rfl, own_base HR_1.out (by omega), HB_1.out⟩
    | succ g =>
      have hlt : k < all.length := by omega
      have hi1 : (k : Int) < (all.length : Int) := by omega
      have hi0 : (0 : Int) ≤ (k : Int) := by omega
      obtain ⟨b, o, hA, hbb, x1_1⟩ := HA_1.out.at_ hlt
      subst hA
      obtain ⟨t, ht, ht4⟩ := HIN.out _ (List.getElem_mem hlt)
      have HSN := Lib.hid (flatW_snoc (all := all) (list := list) hlt)
      rw [ht] at HSN x1_1
      have HTA := Lib.hid ht
      clear ht
      have hlk : ((all.take k).flatMap fun p => rowW all list p all).length ≤ 4096 := by
        have h1 := flatW_len (all := all) (list := list) (all.take k)
        have h2 : (all.take k).length ≤ 64 := by rw [List.length_take]; omega
        have h3 := Nat.mul_le_mul h2 h64
        omega
      obtain ⟨AX, cX, hvx⟩ := own_form HR_1.out
      subst hvx
      generalize hrs : ((all.take k).flatMap fun p => rowW all list p all) = r1 at *
      have HR1 := Lib.hid hrs
      clear hrs
      go_wp2
      go_step3
      go_wp2
      go_step3
      go_wp2
      rename World => wo
      have HR_2 : Hid (wo.ownsRow (w.heap.size + 1) 72 2 (.slice AX r1.length cX) (r1 ++ rowW all list (t : Int) (all.take 0)).length (flatA (r1 ++ rowW all list (t : Int) (all.take 0)))) := Lib.hid (by simpa [rowW] using HR_1.out)
      clear HR_1
      go_loopg [5, 21] all.length (fun g2 v i wx => ∃ j : Nat, j + g2 = all.length ∧ i = .int .i64 j ∧ Hid (wx.ownsRow (w.heap.size + 1) 72 2 v (r1 ++ rowW all list (t : Int) (all.take j)).length (flatA (r1 ++ rowW all list (t : Int) (all.take j)))) ∧ Hid (BX wx w.heap.size F) ∧ Hid (SI wx w.heap.size (some ⟨b, o, none⟩) all.length c all) ∧ Hid (Below w.heap.size w wx))
      case atStart => exact ⟨0, by omega, rfl, HR_2, HX_1, HA_1, HB_1⟩
      case round =>
        clear HR_2 HX_1 HA_1 HB_1
        obtain ⟨j, hjg, rfl, HR_3, HX_3, HA_3, HB_3⟩ := hrel
        cases gk with
        | zero =>
          obtain rfl : j = all.length := by omega
          have hk9 : ¬ (all.length : Int) < (all.length : Int) := by omega
          have HE : Hid (all.take all.length = all) := Lib.hid (List.take_of_length_le (Nat.le_refl _))
          rw [HE.out] at HR_3
          obtain ⟨AY, cY, hvy⟩ := own_form HR_3.out
          subst hvy
          generalize hrs : r1 ++ rowW all list (t : Int) all = r2 at *
          have HR2 := Lib.hid hrs
          clear hrs
          go_wp2
          go_roundg g
          case measure => omega
          case rel => exact ⟨k + 1, by omega, by go_num, Lib.hid (by rw [HSN.out]; exact HR_3.out), HX_3, HA_3, HB_3⟩
        | succ g2 =>
          have hlj : j < all.length := by omega
          have hj1 : (j : Int) < (all.length : Int) := by omega
          have hj0 : (0 : Int) ≤ (j : Int) := by omega
          obtain ⟨b1, o1, hA, hbb1, x1_3⟩ := HA_3.out.at_ hlj
          injection hA with hA
          injection hA with e1 e2
          subst e1 e2
          obtain ⟨u, hu, hu4⟩ := HIN.out _ (List.getElem_mem hlj)
          have HSN2 : Hid (r1 ++ rowW all list (t : Int) (all.take (j + 1)) = r1 ++ rowW all list (t : Int) (all.take j) ++ if decide (t &&& u = 0) && okIn all list t u then [⟨t, u⟩] else []) := Lib.hid (by have h := rowW_snoc (all := all) (list := list) (p := (t : Int)) hlj; rw [hu, Int.toNat_natCast, Int.toNat_natCast] at h; rw [h, List.append_assoc])
          rw [hu] at x1_3
          have HUA := Lib.hid hu
          clear hu
          have hrn : (r1 ++ rowW all list (t : Int) (all.take j)).length ≤ 2000000 := by
            have h1 := rowW_len all list (all.take j) (t : Int)
            have h2 : (all.take j).length ≤ 64 := by rw [List.length_take]; omega
            rw [List.length_append]; omega
          obtain ⟨AY, cY, hvy⟩ := own_form HR_3.out
          subst hvy
          generalize hrs : r1 ++ rowW all list (t : Int) (all.take j) = r2 at *
          have HR2 := Lib.hid hrs
          clear hrs
          have hand := i64_and_nat t u (by omega) (by omega)
          obtain ⟨r, hr⟩ : ∃ r, t &&& u = r := ⟨_, rfl⟩
          rw [hr] at hand HSN2
          have HRR := Lib.hid hr
          clear hr
          by_cases h0 : r = 0
          case neg =>
            have HS : Hid (r1 ++ rowW all list (t : Int) (all.take (j + 1)) = r2) := Lib.hid (by rw [HSN2.out, decide_eq_false h0, Bool.false_and, if_neg (by decide), List.append_nil])
            have h0i : ¬ (r : Int) = 0 := by omega
            have h0e : ((r : Int) == 0) = false := by rw [beq_eq_false_iff_ne]; omega
            go_wp2
            go_roundg g2
            case measure => omega
            case rel => exact ⟨j + 1, by omega, by go_num, Lib.hid (by rw [HS.out]; exact HR_3.out), HX_3, HA_3, HB_3⟩
          subst h0
          rw [decide_eq_true rfl, Bool.true_and] at HSN2
          go_wp2
          obtain ⟨w4, hw4⟩ : ∃ W : World, W = (wr.alloc (.cells #[.int .i64 t, .int .i64 u] 72)) := ⟨_, rfl⟩
          have hb4 : Below wr.heap.size wr w4 := by rw [hw4]; exact (Below.refl _ _).alloc (Nat.le_refl _) _
          obtain ⟨G, hG⟩ : ∃ G, wr.heap.size = G := ⟨_, rfl⟩
          have HD_4 : Hid (C2 w4 G (.int .i64 t) (.int .i64 u)) := Lib.hid (by rw [hw4, ← hG]; exact c2New _ _ _ _)
          have hgw : w.heap.size + 1 ≤ G := by rw [← hG]; exact HX_3.out.lt
          have HR_4 := Lib.hid (own_below HR_3.out hb4)
          have HX_4 := Lib.hid (HX_3.out.below hb4)
          have HA_4 : Hid (SI w4 w.heap.size (some ⟨b, o, none⟩) all.length c all) := Lib.hid (HA_3.out.below' hb4 HB_3.out.size)
          have HB_4 : Hid (Below w.heap.size w w4) := Lib.hid (HB_3.out.trans (hb4.mono HB_3.out.size))
          have HW4 : Hid ((wr.alloc (.cells #[.int .i64 t, .int .i64 u] 72)) = w4) := Lib.hid hw4.symm
          rw [HW4.out, hG]
          clear hw4 hb4 hG HW4 HR_3 HX_3 HA_3 HB_3 x1_1 x1_3
          rename World => wp
          go_loopg [34] all.length (fun g3 i wx => ∃ l : Nat, l + g3 = all.length ∧ i = .int .i64 l ∧ Hid (okIn (all.take l) list t u = true) ∧ Hid (C2 wx G (.int .i64 t) (.int .i64 u)) ∧ Hid (wx.ownsRow (w.heap.size + 1) 72 2 (.slice AY r2.length cY) r2.length (flatA r2)) ∧ Hid (BX wx w.heap.size F) ∧ Hid (SI wx w.heap.size (some ⟨b, o, none⟩) all.length c all) ∧ Hid (Below w.heap.size w wx))
          case atStart => exact ⟨0, by omega, rfl, Lib.hid rfl, HD_4, HR_4, HX_4, HA_4, HB_4⟩
          case round =>
            clear HD_4 HR_4 HX_4 HA_4 HB_4
            obtain ⟨l, hlg, rfl, HOK, HD_5, HR_5, HX_5, HA_5, HB_5⟩ := hrel
            cases gk with
            | zero =>
              obtain rfl : l = all.length := by omega
              have hk9 : ¬ (all.length : Int) < (all.length : Int) := by omega
              have HE : Hid (all.take all.length = all) := Lib.hid (List.take_of_length_le (Nat.le_refl _))
              rw [HE.out] at HOK
              have HS : Hid (r1 ++ rowW all list (t : Int) (all.take (j + 1)) = r2 ++ [⟨t, u⟩]) := Lib.hid (by rw [HSN2.out, HOK.out, if_pos rfl])
              have c0 := HD_5.out.c0
              have c1 := HD_5.out.c1
              go_wp2_with (at_builtin; refine wpList_app_Ag rfl _ _ rfl _ _ _ _ rfl HR_5.out _ _ _ _ rfl (by first | rfl | simp) hrn (by have := HX_5.out.lt; omega) ?_; intro v' w6 ho1 hb1 _; have HO1 := Lib.hid ho1; have HB6 := Lib.hid hb1; clear ho1 hb1)
              go_roundg g2
              case measure => omega
              case rel => exact ⟨j + 1, by omega, by go_num, Lib.hid (by rw [HS.out, List.length_append, flatA_app]; exact HO1.out), Lib.hid (HX_5.out.low HB6.out (by omega)), Lib.hid (HA_5.out.below' HB6.out (by omega)), Lib.hid (HB_5.out.trans (HB6.out.mono (by omega)))⟩
            | succ g3 =>
              have hll : l < all.length := by omega
              have hl1 : (l : Int) < (all.length : Int) := by omega
              have hl0 : (0 : Int) ≤ (l : Int) := by omega
              obtain ⟨b1, o1, hA, hbb1, x1_5⟩ := HA_5.out.at_ hll
              injection hA with hA
              injection hA with e1 e2
              subst e1 e2
              obtain ⟨x, hx, hx4⟩ := HIN.out _ (List.getElem_mem hll)
              have HN := Lib.hid (okIn_snoc (list := list) (p := t) (q := u) hll)
              have HNO : Hid ((!matchN t u all[l].toNat || list.any fun y => decide (y = all[l])) = false → okIn all list t u = false) := Lib.hid (okIn_no hll)
              rw [hx] at HN HNO x1_5
              rw [Int.toNat_natCast] at HN HNO
              rw [HOK.out, Bool.true_and] at HN
              rw [← HFF.out x hx4] at HN HNO
              have HXA := Lib.hid hx
              clear hx
              have c0 := HD_5.out.c0
              have c1 := HD_5.out.c1
              obtain ⟨mt, hmt⟩ : ∃ v, matchN t u x = v := ⟨_, rfl⟩
              have HMT := Lib.hid hmt
              rw [hmt] at HN HNO
              clear hmt
              have xb := HX_5.out.c x hx4
              obtain ⟨fx, hfx⟩ : ∃ v, F x = v := ⟨_, rfl⟩
              have HFX := Lib.hid hfx
              rw [hfx] at HN HNO xb
              clear hfx
              have hx0 : (0 : Int) ≤ (x : Int) := by omega
              have hx4i : (x : Int) < 4096 := by omega
              cases mt
              · have HP : Hid (okIn (all.take (l + 1)) list t u = true) := Lib.hid HN.out
                go_wp2_with (go_at_call 85; refine (armMatch_v t u x _ ht4 hu4 hx4 HMT.out).mono ?_; rintro e w6 ⟨rfl, hb⟩; have HBM := Lib.hid hb; clear hb)
                go_roundg g3
                case measure => omega
                case rel => exact ⟨l + 1, by omega, by go_num, HP, Lib.hid (HD_5.out.below HBM.out), Lib.hid (own_below HR_5.out HBM.out), Lib.hid (HX_5.out.below HBM.out), Lib.hid (HA_5.out.below' HBM.out HB_5.out.size), Lib.hid (HB_5.out.trans (HBM.out.mono HB_5.out.size))⟩
              · have HXB : Hid (∀ w', Below wr.heap.size wr w' → w'.cell? ⟨w.heap.size, x, none⟩ = some (.bool fx)) := Lib.hid (fun w' hb => keep1 hb xb)
                cases fx
                · have HP : Hid (okIn all list t u = false) := Lib.hid (HNO.out rfl)
                  have HS : Hid (r1 ++ rowW all list (t : Int) (all.take (j + 1)) = r2) := Lib.hid (by rw [HSN2.out, HP.out, if_neg (by decide), List.append_nil])
                  go_wp2_with (go_at_call 85; refine (armMatch_v t u x _ ht4 hu4 hx4 HMT.out).mono ?_; rintro e w6 ⟨rfl, hb⟩; have xb6 := HXB.out _ hb; have HBM := Lib.hid hb; clear hb)
                  go_roundg g2
                  case measure => omega
                  case rel => exact ⟨j + 1, by omega, by go_num, Lib.hid (by rw [HS.out]; exact own_below HR_5.out HBM.out), Lib.hid (HX_5.out.below HBM.out), Lib.hid (HA_5.out.below' HBM.out HB_5.out.size), Lib.hid (HB_5.out.trans (HBM.out.mono HB_5.out.size))⟩
                · have HP : Hid (okIn (all.take (l + 1)) list t u = true) := Lib.hid HN.out
                  go_wp2_with (go_at_call 85; refine (armMatch_v t u x _ ht4 hu4 hx4 HMT.out).mono ?_; rintro e w6 ⟨rfl, hb⟩; have xb6 := HXB.out _ hb; have HBM := Lib.hid hb; clear hb)
                  go_roundg g3
                  case measure => omega
                  case rel => exact ⟨l + 1, by omega, by go_num, HP, Lib.hid (HD_5.out.below HBM.out), Lib.hid (own_below HR_5.out HBM.out), Lib.hid (HX_5.out.below HBM.out), Lib.hid (HA_5.out.below' HBM.out HB_5.out.size), Lib.hid (HB_5.out.trans (HBM.out.mono HB_5.out.size))⟩
end Go.Proofs.Ytpmanbmhbfnefaa
