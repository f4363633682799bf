import Derived.Test.YtcbhfaijlmckbaaGenU
import Derived.Test.YtcbhfaijlmckbaaOpenS
import Derived.Deep.DeepCutAuto
namespace Go.Proofs.Ytcbhfaijlmckbaa
open Go.RowKit
set_option linter.unusedVariables false
set_option linter.unusedSimpArgs false
set_option maxRecDepth 100000

theorem clLowH {w w' : World} {b L : Nat} {v : Value} (h : Cl w b v) (hb : Below L w w') (hlt : b < L) : Cl w' b v :=
  ⟨(hb.cell (p := ⟨b, 0, none⟩) hlt).trans h.1, (hb.frozen (p := ⟨b, 0, none⟩) hlt).trans h.2⟩
theorem ownLow {w w' : World} {base L : Nat} {e : TypeId} {sz : Nat} {v : Value} {n : Nat} {xs : List Value} (h : w.ownsRow base e sz v n xs) (hb : Below L w w') (hlt : ∀ q, v.ownBlock = some q → q < L) : w'.ownsRow base e sz v n xs := by
  refine ⟨h.1, ?_⟩
  rcases h.2 with hn | ⟨g, cap, cur, rfl, h1, hg, rest⟩
  · exact .inl hn
  · exact .inr ⟨g, cap, cur, rfl, h1, (hb.block g (hlt g rfl)).trans hg, rest⟩
/-- A slice of small numbers that lies behind block L. -/
structure TabI (w : World) (L : Nat) (A : Option Addr) (q c : Nat) (ts : List Int) : Prop where
  len : ts.length = q
  cap : q ≤ c
  max : c ≤ maxLen
  rng : ∀ t ∈ ts, -60000 ≤ t ∧ t ≤ 60000
  at_ : ts = [] ∨ ∃ b o, A = some ⟨b, o, none⟩ ∧ L ≤ b ∧ b < w.heap.size ∧ ∀ i x, ts[i]? = some x → w.cell? ⟨b, o + i, none⟩ = some (.int .i64 x)
section
variable {w w' : World} {L q c : Nat} {A : Option Addr} {ts : List Int}
theorem TabI.si (h : TabI w L A q c ts) : SI w w.heap.size A q c ts := by
  refine ⟨?_, h.len, h.cap, h.max, fun t ht => by have := h.rng t ht; omega⟩
  rcases h.at_ with e | ⟨b, o, hA, _, hb, hc⟩
  · exact .inl e
  · refine .inr ⟨b, o, hA, hb, fun i x hi j v hj => ?_⟩
    match j, hj with
    | 0, hj =>
      simp [encI] at hj
      subst hj
      rw [Nat.mul_one, Nat.add_zero]
      exact hc i x hi
    | j + 1, hj => simp [encI] at hj
theorem TabI.set (h : TabI w L A q c ts) {p : Addr} (hp : p.block < L) (u : Value) : TabI (w.setCell p u) L A q c ts := by
  refine ⟨h.len, h.cap, h.max, h.rng, ?_⟩
  rcases h.at_ with e | ⟨b, o, hA, hL, hb, hc⟩
  · exact .inl e
  · exact .inr ⟨b, o, hA, hL, by simpa using hb, fun i x hi => (World.cell?_setCell_other _ _ _ _ (fun e => by subst e; simp only at hp; omega)).trans (hc i x hi)⟩
theorem TabI.more (h : TabI w L A q c ts) {L' : Nat} (hL : L' ≤ L) : TabI w L' A q c ts := by
  refine ⟨h.len, h.cap, h.max, h.rng, ?_⟩
  rcases h.at_ with e | ⟨b, o, hA, hl, hb, hc⟩
  · exact .inl e
  · exact .inr ⟨b, o, hA, by omega, hb, hc⟩
theorem TabI.below (h : TabI w L A q c ts) (hb' : Below w.heap.size w w') : TabI w' L A q c ts := by
  refine ⟨h.len, h.cap, h.max, h.rng, ?_⟩
  rcases h.at_ with e | ⟨b, o, hA, hl, hb, hc⟩
  · exact .inl e
  · exact .inr ⟨b, o, hA, hl, by have := hb'.size; omega, fun i x hi => (hb'.cell (p := ⟨b, o + i, none⟩) hb).trans (hc i x hi)⟩
theorem TabI.grown (h : TabI w L A q c ts) {R : Nat} (hg : w.grownBy w' (some R)) (hR : R < L) : TabI w' L A q c ts := by
  refine ⟨h.len, h.cap, h.max, h.rng, ?_⟩
  rcases h.at_ with e | ⟨b, o, hA, hl, hb, hc⟩
  · exact .inl e
  · exact .inr ⟨b, o, hA, hl, by have := hg.size; omega, fun i x hi => hg.cell (hc i x hi) (fun e => by have e2 : b = R := Option.some.inj e; omega)⟩
theorem tabI_own {base : Nat} {e : TypeId} (h : w.ownsRow base e 1 (.slice A q c) q (flatI ts)) (hr : ∀ t ∈ ts, -60000 ≤ t ∧ t ≤ 60000) : TabI w base A q c ts := by
  have hl : ts.length = q := by have := h.1; simp [flatI] at this; omega
  rcases h.2 with ⟨h1, h2⟩ | ⟨g, cap, cur, h1, hbg, hg, hc, hm, hs, ht⟩
  · injection h1 with e1 e2 e3
    exact ⟨hl, by omega, by subst e3; unfold maxLen; omega, hr, .inl (List.eq_nil_of_length_eq_zero (by omega))⟩
  · injection h1 with e1 e2 e3
    subst e1 e3
    refine ⟨hl, hc, hm, hr, .inr ⟨g, 0, rfl, hbg, (Array.getElem?_eq_some_iff.1 hg).1, fun i x hi => ?_⟩⟩
    obtain ⟨hil, rfl⟩ := List.getElem?_eq_some_iff.1 hi
    have h4 := h.cellAt i (by omega)
    rw [Nat.zero_add, h4]
    simp [flatI, hil]
theorem TabI.drop1 {g : Nat} (h : TabI w L (some ⟨g, 0, none⟩) q c ts) (hq : 1 ≤ q) (A2 : Option Addr) (hA2 : A2 = if c = 1 then some ⟨g, 0, none⟩ else some ⟨g, 1, none⟩) : TabI w L A2 (q - 1) (c - 1) (ts.drop 1) := by
  refine ⟨by rw [List.length_drop, h.len], by have := h.cap; omega, by have := h.max; omega, fun t ht => h.rng t (List.mem_of_mem_drop ht), ?_⟩
  rcases h.at_ with e | ⟨b, o, hA, hl, hb, hc⟩
  · exact .inl (by rw [e]; rfl)
  · injection hA with hA
    injection hA with h1 h2
    subst h1 h2
    by_cases h1 : c = 1
    · refine .inl (List.eq_nil_of_length_eq_zero ?_)
      rw [List.length_drop, h.len]
      have := h.cap
      omega
    · rw [if_neg h1] at hA2
      refine .inr ⟨g, 1, hA2, hl, hb, fun i x hi => ?_⟩
      rw [List.getElem?_drop] at hi
      have := hc (1 + i) x hi
      rwa [Nat.zero_add] at this
end
theorem run_slice1 (g q c : Nat) (hq : 1 ≤ q) (hc : q ≤ c) (W : World) : (Instr.slice 35 (.slice (some ⟨g, 0, none⟩) q c) (some (.int .i64 1)) none none).run Try.prog W = .ok (.slice (if c = 1 then some ⟨g, 0, none⟩ else some ⟨g, 1, none⟩) (q - 1) (c - 1)) W := by
  rw [run_slice_l (P := Try.prog) W 35 (some ⟨g, 0, none⟩) q c (by kernel_rfl) .i64 1 (by omega) (by omega)]
  have hs : (sizeOf (Try.prog.elem 35)).run Try.prog W = .ok 1 W := by kernel_rfl
  rw [hs]
  by_cases h : c = 1
  · subst h; simp [Result.andThen, sliced]
  · simp [Result.andThen, sliced, h, Addr.add]
/-- A drawn enumeration and a table of numbers. -/
def TabP (R B : Nat) (A : Option Addr) (cb : Nat) (zs : List Int) (p : Nat) (w : World) (e : Ending) (w' : World) : Prop :=
  ∃ (Aa : Option Addr) (ca : Nat) (ds : List D) (T : Option Addr) (q c : Nat) (ts : List Int) (p' : Nat), e = .returned (.tuple #[.agg #[.slice Aa ds.length ca], .slice T q c]) ∧ ds.length ≤ 25 ∧ (∀ d ∈ ds, d.small) ∧ q ≤ 26 ∧
    w'.ownsRow w.heap.size 60 2 (.slice Aa ds.length ca) ds.length (flat ds) ∧ TabI w' (w.heap.size + 1) T q c ts ∧ p' ≤ p + 300 ∧ w.grownBy w' (some R) ∧ Rdr w' R B A cb zs p'
set_option maxHeartbeats 16000000 in
theorem tableIn_any (R B : Nat) (A : Option Addr) (cb : Nat) (zs : List Int) (p : Nat) (w : World) (h : Rdr w R B A cb zs p) (hp : p + 300 ≤ 100000) :
    Calls Try.prog 85 #[.pointer (some ⟨R, 0, none⟩)] w (TabP R B A cb zs p w) := by
  have hRl : R < w.heap.size := h.lt
  obtain ⟨w0, hw⟩ : ∃ W : World, W = (w.alloc (.cells #[.slice none 0 0] 25)) := ⟨_, rfl⟩
  have hb : Below w.heap.size w w0 := by rw [hw]; exact (Below.refl _ _).alloc (Nat.le_refl _) _
  have hs0 : w0.heap.size = w.heap.size + 1 := by rw [hw]; simp
  have X0_0 : Hid (Cl w0 w.heap.size (.slice none 0 0)) := Lib.hid (by rw [hw]; exact ⟨by simp [go_sem], by simp [go_sem]⟩)
  have HR_0 := Lib.hid (h.below hb)
  have HG_0 : Hid (w.grownBy w0 (some R)) := Lib.hid (grown_of_below hb _)
  have HW0 : Hid ((w.alloc (.cells #[.slice none 0 0] 25)) = w0) := Lib.hid hw.symm
  clear hb hw h
  go_enter Try.func85, Try.ntmps85
  go_wp2_with fail
  rw [HW0.out]
  refine (someEnum_any R B A cb zs p _ HR_0.out (by omega)).mono ?_
  rintro e w1 ⟨Aa, ca, ds, p1, rfl, hna, hsa, hoa, hp1, hg, hr⟩
  have X0_1 := Lib.hid (X0_0.out.grown hg (fun e => by injection e with e; omega))
  have HG_1 : Hid (w.grownBy w1 (some R)) := Lib.hid (HG_0.out.trans hg)
  have HR_1 := Lib.hid hr
  have HD_1 := Lib.hid hoa
  have HSa := Lib.hid hsa
  have hz1 : w0.heap.size ≤ w1.heap.size := hg.size
  have HDL1 : Hid (∀ q, (Value.slice Aa ds.length ca).ownBlock = some q → q < w1.heap.size) := Lib.hid (fun q hq => (hoa.lt q hq).2)
  clear hg hr hoa hsa X0_0 HG_0 HR_0
  obtain ⟨w3, hw⟩ : ∃ W : World, W = ((w1.alloc (.cells #[.slice Aa ds.length ca] 25)).alloc (.cells #[] 3)) := ⟨_, rfl⟩
  have hb : Below w1.heap.size w1 w3 := by rw [hw]; exact ((Below.refl _ _).alloc (Nat.le_refl _) _).alloc (by simp) _
  have hs3 : w3.heap.size = w1.heap.size + 2 := by rw [hw]; simp
  have CA_3 : Hid (Cl w3 w1.heap.size (.slice Aa ds.length ca)) := Lib.hid (by rw [hw]; exact ⟨by simp [go_sem], by simp [go_sem]⟩)
  have HX_3 : Hid (w3.ownsRow (w1.heap.size + 1) 3 1 (.slice (some ⟨w1.heap.size + 1, 0, none⟩) 0 0) 0 (flatI [])) := Lib.hid (by rw [hw, ← World.size_alloc w1 (.cells #[.slice Aa ds.length ca] 25)]; exact World.ownsRow_made (w1.alloc (.cells #[.slice Aa ds.length ca] 25)) #[] 0 (Nat.le_refl _) (by unfold maxLen; omega) rfl)
  have X0_3 := Lib.hid (X0_1.out.below hb)
  have HD_3 := Lib.hid (own_below HD_1.out hb)
  have HG_3 : Hid (w.grownBy w3 (some R)) := Lib.hid (grown_below HG_1.out (hb.mono HG_1.out.size))
  have HR_3 := Lib.hid (HR_1.out.below hb)
  have HW3 : Hid (((w1.alloc (.cells #[.slice Aa ds.length ca] 25)).alloc (.cells #[] 3)) = w3) := Lib.hid hw.symm
  have lfa : ((w1.alloc (.cells #[.slice Aa ds.length ca] 25)).alloc (.cells #[] 3)).cell? ⟨w1.heap.size, 0, none⟩ = some (.slice Aa ds.length ca) := by rw [HW3.out]; exact CA_3.out.1
  have HSD := Lib.hid (sd_of_own HD_3.out (fun d hd => small_ok (HSa.out d hd)))
  clear hb hw X0_1 HD_1 HG_1 HR_1
  obtain ⟨G, hG⟩ : ∃ G, w1.heap.size + 1 = G := ⟨_, rfl⟩
  have HDL : Hid (∀ q, (Value.slice Aa ds.length ca).ownBlock = some q → q < G) := Lib.hid (fun q hq => by have := HDL1.out q hq; omega)
  go_wp2_with fail
  rw [HW3.out]
  clear lfa HW3
  refine (members_any ds _ _ _ _ HSD.out (by omega)).mono ?_
  rintro e w4 ⟨Am, cm, rfl, _, hb⟩
  have X0_4 := Lib.hid (X0_3.out.below hb)
  have CA_4 := Lib.hid (CA_3.out.below hb)
  have HD_4 := Lib.hid (own_below HD_3.out hb)
  have HX_4 : Hid (w4.ownsRow G 3 1 (.slice (some ⟨G, 0, none⟩) 0 0) 0 (flatI [])) := Lib.hid (by rw [← hG]; exact own_below HX_3.out hb)
  have HG_4 : Hid (w.grownBy w4 (some R)) := Lib.hid (grown_below HG_3.out (hb.mono HG_3.out.size))
  have HR_4 := Lib.hid (HR_3.out.below hb)
  have hz4 : G ≤ w4.heap.size := by have := hb.size; omega
  have hml := mems_len (ds := ds)
  obtain ⟨m, hm⟩ : ∃ m, (mems ds).length = m := ⟨_, rfl⟩
  rw [hm] at hml ⊢
  clear hb hm X0_3 CA_3 HD_3 HX_3 HG_3 HR_3 HSD HDL1
  have g1 : w.heap.size + 1 ≤ w1.heap.size := by omega
  have hG2 : w1.heap.size < G := by omega
  generalize w1.heap.size = C at *
  have hgG := Lib.hid hG
  clear hG hs3 hz1
  have hd1 : ¬ C = w.heap.size := by omega
  have hd2 : ¬ w.heap.size = C := by omega
  go_wp2
  go_loopw [5, 6] (fun v i wr => ∃ (k : Nat) (xs : List Int) (p' : Nat), i = .int .i64 k ∧ k ≤ 25 ∧ xs.length + k ≤ 25 ∧ p' + 2 * k ≤ p1 + 50 ∧ Hid (wr.ownsRow G 3 1 v xs.length (flatI xs)) ∧ Hid (∀ t ∈ xs, -60000 ≤ t ∧ t ≤ 60000) ∧ Hid (Cl wr w.heap.size (.slice none 0 0)) ∧ Hid (Cl wr C (.slice Aa ds.length ca)) ∧ Hid (wr.ownsRow w0.heap.size 60 2 (.slice Aa ds.length ca) ds.length (flat ds)) ∧ Hid (w.grownBy wr (some R)) ∧ Hid (Rdr wr R B A cb zs p') ∧ G ≤ wr.heap.size) (fun _ i _ => (intOf i).toNat)
  case atStart => exact ⟨m, [], p1, rfl, by omega, by simp; omega, by omega, HX_4, Lib.hid (fun t ht => by cases ht), X0_4, CA_4, HD_4, HG_4, HR_4, hz4⟩
  case round =>
    clear HX_4 X0_4 CA_4 HD_4 HG_4 HR_4 hz4
    obtain ⟨k, xs, p2, rfl, hk, hxl, hpp, HX_w, HXS, X0_w, CA_w, HD_w, HG_w, HR_w, hz_w⟩ := hrel
    obtain ⟨AX, cX, hvx⟩ := own_form HX_w.out
    subst hvx
    obtain ⟨w5, hwn⟩ : ∃ W : World, W = wr := ⟨_, rfl⟩
    subst hwn
    have X0_5 := X0_w
    have CA_5 := CA_w
    have HD_5 := HD_w
    have HX_5 := HX_w
    have HG_5 := HG_w
    have HR_5 := HR_w
    have hz5 := hz_w
    clear X0_w CA_w HD_w HX_w HG_w HR_w hz_w
    by_cases h0 : k = 0
    · subst h0
      by_cases hx0 : xs.length = 0
      · have hx1 : ¬ (0 < (xs.length : Int)) := by omega
        have HX0 := Lib.hid hx0
        clear hx0
        obtain ⟨x0, f0⟩ := id X0_5.out
        have c0 := CA_5.out.1
        go_wp2
        refine bodyPost_ret (v := .tuple #[.agg #[.slice Aa ds.length ca], .slice AX xs.length cX]) (by simp [results, Try.results85, go_sem, x0, hd1, hd2]) rfl ⟨Aa, ca, ds, AX, xs.length, cX, xs, p2, rfl, hna, HSa.out, by omega, ?_, ?_, by omega, ?_, ?_⟩
        · exact own_base (own_setCell HD_5.out (fun e => by have := (HD_5.out.lt _ e).1; simp only at this; omega) _) (by omega)
        · exact ((tabI_own HX_5.out HXS.out).more (by omega)).set (by simp only; omega) _
        · exact grown_set HG_5.out (Nat.le_refl _) _
        · exact HR_5.out.set (by simp only; omega) _
      · have hx1 : (0 < (xs.length : Int)) := by omega
        go_wp2_with fail
        refine (pick_any 12 R B A cb zs p2 _ HR_5.out (by omega) (by omega) (by omega)).mono ?_
        rintro e w6 ⟨r, rfl, r0, r1, hg, hr⟩
        have X0_6 := Lib.hid (X0_5.out.grown hg (fun e => by injection e with e; omega))
        have CA_6 := Lib.hid (CA_5.out.grown hg (fun e => by injection e with e; omega))
        have HD_6 := Lib.hid (HD_5.out.kept hg (own_neR HD_5.out (by omega)))
        have HX_6 := Lib.hid (HX_5.out.kept hg (own_neR HX_5.out (by omega)))
        have HG_6 : Hid (w.grownBy w6 (some R)) := Lib.hid (HG_5.out.trans hg)
        have HR_6 := Lib.hid hr
        have hz6 : G ≤ w6.heap.size := by have := hg.size; omega
        clear hg hr X0_5 CA_5 HD_5 HX_5 HG_5 HR_5
        by_cases hr0 : r = 0
        · subst hr0
          obtain ⟨w7, hw⟩ : ∃ W : World, W = (w6.alloc (.cells #[.int .i64 1, .int .i64 1001] 3)) := ⟨_, rfl⟩
          have hb : Below w6.heap.size w6 w7 := by rw [hw]; exact (Below.refl _ _).alloc (Nat.le_refl _) _
          have X0_7 := Lib.hid (X0_6.out.below hb)
          have CA_7 := Lib.hid (CA_6.out.below hb)
          have HD_7 := Lib.hid (own_below HD_6.out hb)
          have HX_7 := Lib.hid (own_below HX_6.out hb)
          have HG_7 : Hid (w.grownBy w7 (some R)) := Lib.hid (grown_below HG_6.out (hb.mono HG_6.out.size))
          have HR_7 := Lib.hid (HR_6.out.below hb)
          have hz7 : G ≤ w7.heap.size := by have := hb.size; omega
          have HW7 : Hid ((w6.alloc (.cells #[.int .i64 1, .int .i64 1001] 3)) = w7) := Lib.hid hw.symm
          clear hb hw X0_6 CA_6 HD_6 HX_6 HG_6 HR_6
          go_wp2_with fail
          rw [HW7.out]
          refine (one_any (-60000) 60000 R B A cb zs (p2 + 1) w6.heap.size 2 2 _ HR_7.out (by omega) (by omega) (by omega) (by omega) (by have := HW7.out; rw [← this]; exact litI rfl rfl (by simp [allI]))).mono ?_
          rintro e w8 ⟨v, rfl, v0, v1, hg, hr⟩
          have X0_8 := Lib.hid (X0_7.out.grown hg (fun e => by injection e with e; omega))
          have CA_8 := Lib.hid (CA_7.out.grown hg (fun e => by injection e with e; omega))
          have HD_8 := Lib.hid (HD_7.out.kept hg (own_neR HD_7.out (by omega)))
          have HX_8 := Lib.hid (HX_7.out.kept hg (own_neR HX_7.out (by omega)))
          have HG_8 : Hid (w.grownBy w8 (some R)) := Lib.hid (HG_7.out.trans hg)
          have HR_8 := Lib.hid hr
          have hz8 : G ≤ w8.heap.size := by have := hg.size; omega
          clear hg hr X0_7 CA_7 HD_7 HX_7 HG_7 HR_7
          go_wp2_with (at_builtin; refine wpList_app_I rfl _ _ rfl G _ _ _ rfl HX_8.out v _ _ rfl (by first | rfl | simp) (by omega) hz8 ?_; intro v' w9 ho hb; obtain ⟨An, cn, rfl⟩ := own_form ho; have X0_9 := Lib.hid (clLowH X0_8.out hb (by omega)); have CA_9 := Lib.hid (clLowH CA_8.out hb (by omega)); have HD_9 := Lib.hid (ownLow HD_8.out hb (fun q hq => by have := HDL.out q hq; omega)); have HX_9 := Lib.hid ho; have HG_9 : Hid (w.grownBy w9 (some R)) := Lib.hid (grown_below HG_8.out (hb.mono (by omega))); have HR_9 := Lib.hid (HR_8.out.belowL hb (by omega)); have hz9 : G ≤ w9.heap.size := (by have := hb.size; omega); clear ho hb)
          refine (pick_any 2 R B A cb zs (p2 + 1 + 1) _ HR_9.out (by omega) (by omega) (by omega)).mono ?_
          rintro e w10 ⟨u, rfl, u0, u1, hg, hr⟩
          have X0_10 := Lib.hid (X0_9.out.grown hg (fun e => by injection e with e; omega))
          have CA_10 := Lib.hid (CA_9.out.grown hg (fun e => by injection e with e; omega))
          have HD_10 := Lib.hid (HD_9.out.kept hg (own_neR HD_9.out (by omega)))
          have HX_10 := Lib.hid (HX_9.out.kept hg (own_neR HX_9.out (by omega)))
          have HG_10 : Hid (w.grownBy w10 (some R)) := Lib.hid (HG_9.out.trans hg)
          have HR_10 := Lib.hid hr
          have hz10 : G ≤ w10.heap.size := by have := hg.size; omega
          clear hg hr X0_9 CA_9 HD_9 HX_9 HG_9 HR_9
          obtain ⟨g, hAn, hbg, hgl⟩ := own_addr HX_10.out (by omega)
          subst hAn
          have hfl : flatI xs ++ [Value.int .i64 v] = flatI (xs ++ [v]) := by simp [flatI]
          have HXT : Hid (TabI w10 G (some ⟨g, 0, none⟩) (xs.length + 1) cn (xs ++ [v])) := Lib.hid (tabI_own (by rw [← hfl]; exact HX_10.out) (fun t ht => by rcases List.mem_append.1 ht with h | h; exact HXS.out t h; simp at h; subst h; omega))
          clear hfl
          have hcn := HXT.out.cap
          obtain ⟨x0, f0⟩ := id X0_10.out
          have c0 := CA_10.out.1
          have hsl := fun W => run_slice1 g (xs.length + 1) cn (by omega) hcn W
          generalize hA2 : (if cn = 1 then some (⟨g, 0, none⟩ : Addr) else some ⟨g, 1, none⟩) = A2 at hsl
          have HA2 := Lib.hid hA2
          clear hA2
          by_cases hu0 : u = 0
          · subst hu0
            go_wp2
            refine bodyPost_ret (v := .tuple #[.agg #[.slice Aa ds.length ca], .slice A2 (xs.length + 1 - 1) (cn - 1)]) (by simp [results, Try.results85, go_sem, x0, hd1, hd2]) rfl ⟨Aa, ca, ds, A2, (xs.length + 1 - 1), (cn - 1), ((xs ++ [v]).drop 1), (p2 + 1 + 1 + 1), rfl, hna, HSa.out, by omega, ?_, ?_, by omega, ?_, ?_⟩
            · exact own_base (own_setCell HD_10.out (fun e => by have := (HD_10.out.lt _ e).1; simp only at this; omega) _) (by omega)
            · exact ((HXT.out.drop1 (by omega) A2 HA2.out.symm).more (by omega)).set (by simp only; omega) _
            · exact grown_set HG_10.out (Nat.le_refl _) _
            · exact HR_10.out.set (by simp only; omega) _
          · skip
            go_wp2
            refine bodyPost_ret (v := .tuple #[.agg #[.slice Aa ds.length ca], .slice (some ⟨g, 0, none⟩) (xs.length + 1) cn]) (by simp [results, Try.results85, go_sem, x0, hd1, hd2]) rfl ⟨Aa, ca, ds, (some ⟨g, 0, none⟩), (xs.length + 1), cn, (xs ++ [v]), (p2 + 1 + 1 + 1), rfl, hna, HSa.out, by omega, ?_, ?_, by omega, ?_, ?_⟩
            · exact own_base (own_setCell HD_10.out (fun e => by have := (HD_10.out.lt _ e).1; simp only at this; omega) _) (by omega)
            · exact (HXT.out.more (by omega)).set (by simp only; omega) _
            · exact grown_set HG_10.out (Nat.le_refl _) _
            · exact HR_10.out.set (by simp only; omega) _
        · skip
          obtain ⟨x0, f0⟩ := id X0_6.out
          have c0 := CA_6.out.1
          go_wp2
          refine bodyPost_ret (v := .tuple #[.agg #[.slice Aa ds.length ca], .slice AX xs.length cX]) (by simp [results, Try.results85, go_sem, x0, hd1, hd2]) rfl ⟨Aa, ca, ds, AX, xs.length, cX, xs, (p2 + 1), rfl, hna, HSa.out, by omega, ?_, ?_, by omega, ?_, ?_⟩
          · exact own_base (own_setCell HD_6.out (fun e => by have := (HD_6.out.lt _ e).1; simp only at this; omega) _) (by omega)
          · exact ((tabI_own HX_6.out HXS.out).more (by omega)).set (by simp only; omega) _
          · exact grown_set HG_6.out (Nat.le_refl _) _
          · exact HR_6.out.set (by simp only; omega) _
    obtain ⟨k, rfl⟩ : ∃ j, k = j + 1 := ⟨k - 1, by omega⟩
    clear h0
    have hk1 : (0 : Int) < ((k + 1 : Nat) : Int) := by omega
    go_wp2_with fail
    refine (pick_any 20 R B A cb zs p2 _ HR_5.out (by omega) (by omega) (by omega)).mono ?_
    rintro e w6 ⟨r, rfl, r0, r1, hg, hr⟩
    have hr20 := r1 (by omega)
    clear r1
    have X0_6 := Lib.hid (X0_5.out.grown hg (fun e => by injection e with e; omega))
    have CA_6 := Lib.hid (CA_5.out.grown hg (fun e => by injection e with e; omega))
    have HD_6 := Lib.hid (HD_5.out.kept hg (own_neR HD_5.out (by omega)))
    have HX_6 := Lib.hid (HX_5.out.kept hg (own_neR HX_5.out (by omega)))
    have HG_6 : Hid (w.grownBy w6 (some R)) := Lib.hid (HG_5.out.trans hg)
    have HR_6 := Lib.hid hr
    have hz6 : G ≤ w6.heap.size := by have := hg.size; omega
    clear hg hr X0_5 CA_5 HD_5 HX_5 HG_5 HR_5
    obtain ⟨w7, hw⟩ : ∃ W : World, W = (w6.alloc (.cells #[.int .i64 1, .int .i64 5, .int .i64 r, .int .i64 (-3), .int .i64 1000, .int .i64 2] 3)) := ⟨_, rfl⟩
    have hb : Below w6.heap.size w6 w7 := by rw [hw]; exact (Below.refl _ _).alloc (Nat.le_refl _) _
    have X0_7 := Lib.hid (X0_6.out.below hb)
    have CA_7 := Lib.hid (CA_6.out.below hb)
    have HD_7 := Lib.hid (own_below HD_6.out hb)
    have HX_7 := Lib.hid (own_below HX_6.out hb)
    have HG_7 : Hid (w.grownBy w7 (some R)) := Lib.hid (grown_below HG_6.out (hb.mono HG_6.out.size))
    have HR_7 := Lib.hid (HR_6.out.below hb)
    have hz7 : G ≤ w7.heap.size := by have := hb.size; omega
    have HW7 : Hid ((w6.alloc (.cells #[.int .i64 1, .int .i64 5, .int .i64 r, .int .i64 (-3), .int .i64 1000, .int .i64 2] 3)) = w7) := Lib.hid hw.symm
    clear hb hw X0_6 CA_6 HD_6 HX_6 HG_6 HR_6
    go_wp2_with fail
    rw [HW7.out]
    refine (one_any (-60000) 60000 R B A cb zs (p2 + 1) w6.heap.size 6 6 _ HR_7.out (by omega) (by omega) (by omega) (by omega) (by have := HW7.out; rw [← this]; exact litI rfl rfl (by simp [allI]; try omega))).mono ?_
    rintro e w8 ⟨v, rfl, v0, v1, hg, hr⟩
    have X0_8 := Lib.hid (X0_7.out.grown hg (fun e => by injection e with e; omega))
    have CA_8 := Lib.hid (CA_7.out.grown hg (fun e => by injection e with e; omega))
    have HD_8 := Lib.hid (HD_7.out.kept hg (own_neR HD_7.out (by omega)))
    have HX_8 := Lib.hid (HX_7.out.kept hg (own_neR HX_7.out (by omega)))
    have HG_8 : Hid (w.grownBy w8 (some R)) := Lib.hid (HG_7.out.trans hg)
    have HR_8 := Lib.hid hr
    have hz8 : G ≤ w8.heap.size := by have := hg.size; omega
    clear hg hr X0_7 CA_7 HD_7 HX_7 HG_7 HR_7
    go_wp2_with (at_builtin; refine wpList_app_I rfl _ _ rfl G _ _ _ rfl HX_8.out v _ _ rfl (by first | rfl | simp) (by omega) hz8 ?_; intro v' w9 ho hb; have X0_9 := Lib.hid (clLowH X0_8.out hb (by omega)); have CA_9 := Lib.hid (clLowH CA_8.out hb (by omega)); have HD_9 := Lib.hid (ownLow HD_8.out hb (fun q hq => by have := HDL.out q hq; omega)); have HX_9 := Lib.hid ho; have HG_9 : Hid (w.grownBy w9 (some R)) := Lib.hid (grown_below HG_8.out (hb.mono (by omega))); have HR_9 := Lib.hid (HR_8.out.belowL hb (by omega)); have hz9 : G ≤ w9.heap.size := (by have := hb.size; omega); clear ho hb)
    go_roundw
    case rel => exact ⟨k, xs ++ [v], p2 + 1 + 1, by go_num, by omega, by simp; omega, by omega, Lib.hid (by have h := HX_9.out; rw [List.length_append]; simpa [flatI] using h), Lib.hid (fun t ht => by rcases List.mem_append.1 ht with h | h; exact HXS.out t h; simp at h; subst h; omega), X0_9, CA_9, HD_9, HG_9, HR_9, hz9⟩
    case measure => simp [intOf]
/-- A drawn enumeration and a table. -/
def DrawET (w : World) (e : Ending) (w' : World) : Prop :=
  ∃ (A : Option Addr) (c : Nat) (ds : List D) (T : Option Addr) (q ct : Nat) (ts : List Int), e = .returned (.tuple #[.agg #[.slice A ds.length c], .slice T q ct]) ∧ ds.length ≤ 25 ∧ (∀ d ∈ ds, d.small) ∧ q ≤ 26 ∧ SD w' w'.heap.size A ds.length c ds ∧ TabI w' w.heap.size T q ct ts ∧ Below w.heap.size w w'
/-- .. and a name. -/
def DrawETS (w : World) (e : Ending) (w' : World) : Prop :=
  ∃ (A : Option Addr) (c : Nat) (ds : List D) (T : Option Addr) (q ct : Nat) (ts : List Int) (s : ByteArray), e = .returned (.tuple #[.agg #[.slice A ds.length c], .slice T q ct, .string s]) ∧ s.size ≤ 100 ∧ ds.length ≤ 25 ∧ (∀ d ∈ ds, d.small) ∧ q ≤ 26 ∧ SD w' w'.heap.size A ds.length c ds ∧ TabI w' w.heap.size T q ct ts ∧ Below w.heap.size w w'
set_option maxHeartbeats 4000000 in
theorem drawRevalue_any (A : Option Addr) (n c : Nat) (zs : List Int) (w : World) (h : SB w w.heap.size A n c zs) :
    Calls Try.prog 43 #[.slice A n c] w (DrawET w) := by
  have HS := Lib.hid h
  clear h
  go_enter Try.func43, Try.ntmps43
  go_wp2_with fail
  refine (newReader_any A n c zs _ (HS.out.alloc0 _)).mono ?_
  rintro e w1 ⟨R, A1, cb, z1, rfl, hR, hr, hb⟩
  have hwR : w.heap.size ≠ R := by simp at hR; omega
  have X1 : Hid (Cl w1 w.heap.size (.slice none 0 0)) := Lib.hid (clNew hb)
  have HB : Hid (Below w.heap.size w w1) := Lib.hid (((Below.refl _ _).alloc (Nat.le_refl _) _).trans (hb.mono (by simp)))
  have HR1 := Lib.hid hr
  have hRl : w.heap.size + 1 ≤ R := by simpa using hR
  have hR1 := HR1.out.lt
  clear hr hb hR
  go_wp2_with fail
  refine (tableIn_any R _ A1 cb z1 0 _ HR1.out (by omega)).mono ?_
  rintro e w2 ⟨Aa, ca, ds, T, q, ct, ts, p2, rfl, hna, hsa, hq, hoa, ht, hp2, hg, hr⟩
  obtain ⟨x0, y0⟩ := X1.out.grown hg (by simpa using hwR)
  have HA4 := Lib.hid hoa
  have HT4 := Lib.hid ht
  have HG4 := Lib.hid hg
  clear hg hr hoa ht X1 HR1
  go_wp2
  refine bodyPost_ret (v := .tuple #[.agg #[.slice Aa ds.length ca], .slice T q ct]) (by simp [results, Try.results43, go_sem, x0]) rfl ⟨Aa, ca, ds, T, q, ct, ts, rfl, hna, hsa, hq, ?_, ?_, ?_⟩
  · exact sd_of_own (own_setCell HA4.out (fun e => by have := (HA4.out.lt _ e).1; simp only at this; omega) _) (fun d hd => small_ok (hsa d hd))
  · exact (HT4.out.set (by simp only; omega) _).more (by omega)
  · exact (HB.out.grown HG4.out HB.out.size (fun k hk => by cases hk; omega)).setCell (Nat.le_refl _) _
def DrawETs (w : World) (e : Ending) (w' : World) : Prop :=
  ∃ (A : Option Addr) (c : Nat) (ds : List D) (T : Option Addr) (q ct : Nat) (ts : List Int), e = .returned (.tuple #[.agg #[.slice A ds.length c], .slice T q ct]) ∧ ds.length ≤ 25 ∧ (∀ d ∈ ds, d.small) ∧ q ≤ 26 ∧ SD w' w'.heap.size A ds.length c ds ∧ SI w' w'.heap.size T q ct ts ∧ Below w.heap.size w w'
theorem drawRevalue_s (A : Option Addr) (n c : Nat) (zs : List Int) (w : World) (h : SB w w.heap.size A n c zs) : Calls Try.prog 43 #[.slice A n c] w (DrawETs w) := (drawRevalue_any A n c zs w h).mono fun _ _ ⟨A, c, ds, T, q, ct, ts, h1, h3, h4, h5, h6, h7, h8⟩ => ⟨A, c, ds, T, q, ct, ts, h1, h3, h4, h5, h6, h7.si, h8⟩
set_option maxHeartbeats 16000000 in
theorem drawLookUp_any (A : Option Addr) (n c : Nat) (zs : List Int) (w : World) (h : SB w w.heap.size A n c zs) :
    Calls Try.prog 39 #[.slice A n c] w (DrawETS w) := by
  have HS := Lib.hid h
  clear h
  go_enter Try.func39, Try.ntmps39
  go_wp2_with fail
  refine (newReader_any A n c zs _ (HS.out.alloc0 _)).mono ?_
  rintro e w1 ⟨R, A1, cb, z1, rfl, hR, hr, hb⟩
  have hwR : w.heap.size ≠ R := by simp at hR; omega
  have X0_1 : Hid (Cl w1 w.heap.size (.slice none 0 0)) := Lib.hid (clNew hb)
  have HB1 : Hid (Below w.heap.size w w1) := Lib.hid (((Below.refl _ _).alloc (Nat.le_refl _) _).trans (hb.mono (by simp)))
  have HR1 := Lib.hid hr
  have hRl : w.heap.size + 1 ≤ R := by simpa using hR
  have hR1 := HR1.out.lt
  clear hr hb hR
  go_wp2_with fail
  refine (tableIn_any R _ A1 cb z1 0 _ HR1.out (by omega)).mono ?_
  rintro e w2 ⟨Aa, ca, ds, T, q, ct, ts, p2, rfl, hna, hsa, hq, hoa, ht, hp2, hg, hr⟩
  have X0_2 := Lib.hid (X0_1.out.grown hg (by simpa using hwR))
  have HG_2 : Hid (w1.grownBy w2 (some R)) := Lib.hid hg
  have HA_2 := Lib.hid hoa
  have HT_2 := Lib.hid ht
  have HSa := Lib.hid hsa
  have HR_2 := Lib.hid hr
  have hz2 : w1.heap.size ≤ w2.heap.size := hg.size
  clear hg hr hoa ht hsa X0_1 HR1
  obtain ⟨w3, hw⟩ : ∃ W : World, W = (w2.alloc (.cells #[.slice Aa ds.length ca] 25)) := ⟨_, rfl⟩
  have hb : Below w2.heap.size w2 w3 := by rw [hw]; exact (Below.refl _ _).alloc (Nat.le_refl _) _
  have ca_3 : w3.cell? ⟨w2.heap.size, 0, none⟩ = some (.slice Aa ds.length ca) := by rw [hw]; simp [go_sem]
  have lfa : (w2.alloc (.cells #[.slice Aa ds.length ca] 25)).cell? ⟨w2.heap.size, 0, none⟩ = some (.slice Aa ds.length ca) := by rw [← hw]; exact ca_3
  have HW3 : Hid ((w2.alloc (.cells #[.slice Aa ds.length ca] 25)) = w3) := Lib.hid hw.symm
  have hz3 : w2.heap.size + 1 ≤ w3.heap.size := by rw [hw]; simp
  have X0_3 := Lib.hid (X0_2.out.below hb)
  have HA_3 := Lib.hid (own_below HA_2.out hb)
  have HT_3 := Lib.hid (HT_2.out.below hb)
  have HG_3 : Hid (w1.grownBy w3 (some R)) := Lib.hid (grown_below HG_2.out (hb.mono HG_2.out.size))
  have HR_3 := Lib.hid (HR_2.out.below hb)
  clear hb hw X0_2 HA_2 HT_2 HG_2 HR_2
  by_cases h0 : ds.length = 0
  · have h01 : ¬ (0 < (ds.length : Int)) := by omega
    have H0 := Lib.hid h0
    clear h0
    go_upto_region 5 with fail
    rw [HW3.out]
    clear HW3 lfa
    generalize w2.heap.size = G at *
    have n1 : G ≠ w.heap.size := by omega
    have n2 : w.heap.size ≠ G := by omega
    go_region_held3 (fun w' => w'.cell? ⟨G, 0, none⟩ = some (.slice Aa ds.length ca)) (first | go_keep | exact ca_3 | exact ya)
      (first
        | (go_at_call 80; refine (anyName_any R _ A1 cb z1 p2 _ (HR_3.out.drewN 1) (by omega)).mono ?_; rintro e w4 ⟨s, p4, rfl, hs, hp4, hg, hr⟩; replace hg : w3.grownBy w4 (some R) := ⟨hg.os, hg.tape, hg.output, hg.size, hg.block⟩; have ya := hg.cell ca_3 (fun e => by have e2 : G = R := Option.some.inj e; omega); have X04 := X0_3.out.grown hg (fun e => by injection e with e; omega); obtain ⟨x0, y0⟩ := id X04; have HA4 := Lib.hid (HA_3.out.kept hg (own_neR HA_3.out (by omega))); have HT4 := Lib.hid (HT_3.out.grown hg (by omega)); have hz4 := hg.size))
    all_goals
      have HG4 : Hid (w1.grownBy w4 (some R)) := Lib.hid (HG_3.out.trans hg)
      clear hg hr
      go_wp2
      refine bodyPost_ret (v := .tuple #[.agg #[.slice Aa ds.length ca], .slice T q ct, .string s]) (by simp [results, Try.results39, go_sem, x0]) rfl ⟨Aa, ca, ds, T, q, ct, ts, s, rfl, hs, hna, HSa.out, hq, ?_, ?_, ?_⟩
      · exact sd_of_own (own_setCell HA4.out (fun e => by have := (HA4.out.lt _ e).1; simp only at this; omega) _) (fun d hd => small_ok (HSa.out d hd))
      · exact (HT4.out.set (by simp only; omega) _).more (by omega)
      · exact (HB1.out.grown HG4.out HB1.out.size (fun k hk => by cases hk; omega)).setCell (Nat.le_refl _) _
  · have h01 : (0 < (ds.length : Int)) := by omega
    go_wp2_with fail
    rw [HW3.out]
    clear HW3 lfa
    generalize w2.heap.size = G at *
    have n1 : G ≠ w.heap.size := by omega
    have n2 : w.heap.size ≠ G := by omega
    refine (pick_any 6 R _ A1 cb z1 p2 _ HR_3.out (by omega) (by omega) (by omega)).mono ?_
    rintro e w5 ⟨r, rfl, r0, r1, hg, hr⟩
    have ca_5 := hg.cell ca_3 (fun e => by have e2 : G = R := Option.some.inj e; omega)
    have X0_5 := Lib.hid (X0_3.out.grown hg (fun e => by injection e with e; omega))
    have HA_5 := Lib.hid (HA_3.out.kept hg (own_neR HA_3.out (by omega)))
    have HT_5 := Lib.hid (HT_3.out.grown hg (by omega))
    have HG_5 : Hid (w1.grownBy w5 (some R)) := Lib.hid (HG_3.out.trans hg)
    have HR_5 := Lib.hid hr
    have hz5 := hg.size
    clear hg hr ca_3 X0_3 HA_3 HT_3 HG_3 HR_3
    by_cases hr0 : 0 < r
    · obtain ⟨g, hA, hbg, hgl⟩ := own_addr HA_5.out (by omega)
      subst hA
      go_wp2_with fail
      go_region_with (first | (go_at_call 71; refine (pick_any ds.length R _ A1 cb z1 (p2 + 1) _ (HR_5.out.drewN 1) (by omega) (by omega) (by omega)).mono ?_; rintro e w4 ⟨k, rfl, k0, k1, hg, hr⟩; replace k1 := k1 (by omega); obtain ⟨k, rfl⟩ := Int.eq_ofNat_of_zero_le k0; have hk : k < ds.length := (by omega); replace hg : w5.grownBy w4 (some R) := ⟨hg.os, hg.tape, hg.output, hg.size, hg.block⟩; have ya := hg.cell ca_5 (fun e => by have e2 : G = R := Option.some.inj e; omega); have X04 := X0_5.out.grown hg (fun e => by injection e with e; omega); obtain ⟨x0, y0⟩ := id X04; have HA4 := Lib.hid (HA_5.out.kept hg (own_neR HA_5.out (by omega))); have HT4 := Lib.hid (HT_5.out.grown hg (by omega)); have hz4 := hg.size; have y2 : w4.cell? ⟨g, k * 2, none⟩ = some (.string ds[k].name) := (by rw [HA4.out.cellAt (k * 2) (by omega)]; exact (flat_get ds k hk).1); have HZ := Lib.hid (HSa.out _ (List.getElem_mem hk)).1; generalize ds[k].name = s at y2 HZ))
      go_wp2
      all_goals
        have HG4 : Hid (w1.grownBy w4 (some R)) := Lib.hid (HG_5.out.trans hg)
        have hs : s.size ≤ 100 := HZ.out
        refine bodyPost_ret (v := .tuple #[.agg #[.slice (some ⟨g, 0, none⟩) ds.length ca], .slice T q ct, .string s]) (by simp [results, Try.results39, go_sem, x0]) rfl ⟨_, ca, ds, T, q, ct, ts, s, rfl, hs, hna, HSa.out, hq, ?_, ?_, ?_⟩
        · exact sd_of_own (own_setCell HA4.out (fun e => by have := (HA4.out.lt _ e).1; simp only at this; omega) _) (fun d hd => small_ok (HSa.out d hd))
        · exact (HT4.out.set (by simp only; omega) _).more (by omega)
        · exact (HB1.out.grown HG4.out HB1.out.size (fun k hk => by cases hk; omega)).setCell (Nat.le_refl _) _
    · go_upto_region 5 with fail
      go_region_held3 (fun w' => w'.cell? ⟨G, 0, none⟩ = some (.slice Aa ds.length ca)) (first | go_keep | exact ca_5 | exact ya)
        (first
          | (go_at_call 80; refine (anyName_any R _ A1 cb z1 (p2 + 1) _ (HR_5.out.drewN 1) (by omega)).mono ?_; rintro e w4 ⟨s, p4, rfl, hs, hp4, hg, hr⟩; replace hg : w5.grownBy w4 (some R) := ⟨hg.os, hg.tape, hg.output, hg.size, hg.block⟩; have ya := hg.cell ca_5 (fun e => by have e2 : G = R := Option.some.inj e; omega); have X04 := X0_5.out.grown hg (fun e => by injection e with e; omega); obtain ⟨x0, y0⟩ := id X04; have HA4 := Lib.hid (HA_5.out.kept hg (own_neR HA_5.out (by omega))); have HT4 := Lib.hid (HT_5.out.grown hg (by omega)); have hz4 := hg.size))
      all_goals
        have HG4 : Hid (w1.grownBy w4 (some R)) := Lib.hid (HG_5.out.trans hg)
        clear hg hr
        go_wp2
        refine bodyPost_ret (v := .tuple #[.agg #[.slice Aa ds.length ca], .slice T q ct, .string s]) (by simp [results, Try.results39, go_sem, x0]) rfl ⟨Aa, ca, ds, T, q, ct, ts, s, rfl, hs, hna, HSa.out, hq, ?_, ?_, ?_⟩
        · exact sd_of_own (own_setCell HA4.out (fun e => by have := (HA4.out.lt _ e).1; simp only at this; omega) _) (fun d hd => small_ok (HSa.out d hd))
        · exact (HT4.out.set (by simp only; omega) _).more (by omega)
        · exact (HB1.out.grown HG4.out HB1.out.size (fun k hk => by cases hk; omega)).setCell (Nat.le_refl _) _
def DrawETSs (w : World) (e : Ending) (w' : World) : Prop :=
  ∃ (A : Option Addr) (c : Nat) (ds : List D) (T : Option Addr) (q ct : Nat) (ts : List Int) (s : ByteArray), e = .returned (.tuple #[.agg #[.slice A ds.length c], .slice T q ct, .string s]) ∧ s.size ≤ 100 ∧ ds.length ≤ 25 ∧ (∀ d ∈ ds, d.small) ∧ q ≤ 26 ∧ SD w' w'.heap.size A ds.length c ds ∧ SI w' w'.heap.size T q ct ts ∧ Below w.heap.size w w'
theorem drawLookUp_s (A : Option Addr) (n c : Nat) (zs : List Int) (w : World) (h : SB w w.heap.size A n c zs) : Calls Try.prog 39 #[.slice A n c] w (DrawETSs w) := (drawLookUp_any A n c zs w h).mono fun _ _ ⟨A, c, ds, T, q, ct, ts, s, h1, h2, h3, h4, h5, h6, h7, h8⟩ => ⟨A, c, ds, T, q, ct, ts, s, h1, h2, h3, h4, h5, h6, h7.si, h8⟩
end Go.Proofs.Ytcbhfaijlmckbaa
