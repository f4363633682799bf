import Derived.Test.YtpmanbmhbfnefaaGenU
import Derived.Test.YtpmanbmhbfnefaaGenF
import Derived.Test.YtpmanbmhbfnefaaBaseP
import Derived.Test.YtpmanbmhbfnefaaAppW
import Derived.Deep.DeepCutAuto
namespace Go.Proofs.Ytpmanbmhbfnefaa
open Go.RowKit
set_option linter.unusedVariables false
set_option linter.unusedSimpArgs false
set_option maxRecDepth 100000

theorem run_app_Db (X : World) (base : Nat) (t ty : TypeId) (ht : Try.prog.underlying t = some (.slice 48)) (v : Value) (n : Nat) (xs : List Value) (hown : X.ownsRow base 48 2 v n xs) (nm : ByteArray) (vl : Int) (g c : Nat)
    (hblk : X.heap[g]? = some (.cells #[.string nm, .int .i64 vl] 48 (0, 0))) (hn : n ≤ 2000000) (hbase : base ≤ X.heap.size) :
    ∃ v' w', (Builtin.append_ #[t, t] ty #[v, .slice (some ⟨g, 0, none⟩) 1 c]).run Try.prog X = .ok v' w' ∧ w'.ownsRow base 48 2 v' (n + 1) (xs ++ [.string nm, .int .i64 vl]) ∧ X.grownBy w' v.ownBlock ∧ Where X v v' := by
  obtain ⟨i0, hi, hz0, hz1, hz2⟩ := info_parts info_D
  obtain ⟨v', w', hr, h2, h3, _, h5⟩ := run_append_own_at (P := Try.prog) X base t ty _ i0 _ 2 24 ht hi hz0 hz1 hz2 rfl (by omega) v n xs hown ⟨g, 0, none⟩ 1 c [.string nm, .int .i64 vl] rfl
    (World.news_of_block hblk) (by simp [Value.oneCell']) (by unfold maxLen; omega) (by omega) hbase
  refine ⟨v', w', hr, h2, h3, fun q hq hne => ?_⟩
  rcases h5 with h5 | h5
  · rw [h5]; exact hne
  · rw [h5]; intro e; injection e with e; omega
/-- An append as one step of a region that draws, with where the new row lies. -/
theorem step_app_Db {W : World} {ops : Array Oper} {o : Oper} {a : Act} {K : Act → World → Prop} {Q : Exit → Act → World → Prop} {E : Prop} (hgd : o.guard = none) (s x : Operand) (ho : o.op = .call { callee := .builtin .append, args := #[s, x], argTypes := #[30, 30] })
    (base : Nat) (v : Value) (n : Nat) (xs : List Value) (hs : a.eval s = v) (hown : W.ownsRow base 48 2 v n xs) (nm : ByteArray) (vl : Int)
    (c g : Nat) (hx : a.eval x = .slice (some ⟨g, 0, none⟩) 1 c) (hblk : W.heap[g]? = some (.cells #[.string nm, .int .i64 vl] 48 (0, 0))) (hn : n ≤ 2000000) (hbase : base ≤ W.heap.size)
    (hK : ∀ v' w', w'.ownsRow base 48 2 v' (n + 1) (xs ++ [.string nm, .int .i64 vl]) → W.grownBy w' v.ownBlock → Where W v v' → K (a.put o.dst v') w') :
    if Region.wanted o (yielded ops a.tmps) = true then Oper.wp Try.prog o a W K Q else E := by
  have hw : Region.wanted o (yielded ops a.tmps) = true := by simp [Region.wanted, hgd]
  rw [if_pos hw]
  obtain ⟨v', w', hr, h2, h3, h4⟩ := run_app_Db W base _ o.type Try.underlying30 v n xs hown nm vl g c hblk hn hbase
  exact Lib.wp_append_run _ s x _ _ ho v _ hs hx v' w' hr (hK v' w' h2 h3 h4)
theorem clLowB {w w' : World} {b L : Nat} {v : Value} (h : Cl w b v) (hb : Below L w w') (hlt : b < L) : Cl w' b v :=
  ⟨(hb.cell (p := ⟨b, 0, none⟩) hlt).trans h.1, (hb.frozen (p := ⟨b, 0, none⟩) hlt).trans h.2⟩
theorem ownLowB {w w' : World} {base L : Nat} {e : TypeId} {sz : Nat} {v : Value} {n : Nat} {xs : List Value} (h : w.ownsRow base e sz v n xs) (hb : Below L w w') (hlt : ∀ q, v.ownBlock = some q → q < L) : w'.ownsRow base e sz v n xs := by
  refine ⟨h.1, ?_⟩
  rcases h.2 with hn | ⟨g, cap, cur, rfl, h1, hg, rest⟩
  · exact .inl hn
  · exact .inr ⟨g, cap, cur, rfl, h1, (hb.block g (hlt g rfl)).trans hg, rest⟩
theorem grown_rowB {w W w' : World} {row r2 : Option Nat} (h : w.grownBy W row) (hg : W.grownBy w' r2) (hw : ∀ g, r2 = some g → w.heap.size ≤ g) : w.grownBy w' row :=
  ⟨hg.os.trans h.os, hg.tape.trans h.tape, hg.output.trans h.output, Nat.le_trans h.size hg.size, fun k hk hr => (hg.block k (Nat.lt_of_lt_of_le hk h.size) (fun e => by have := hw k e.symm; omega)).trans (h.block k hk hr)⟩
theorem apart_lt {v u : Value} {G : Nat} (h : ∀ q, v.ownBlock = some q → q < G) (hu : ∀ q, u.ownBlock = some q → G ≤ q) : Apart v u := by
  cases e : v.ownBlock with
  | none => exact .inl e
  | some k => exact .inr (fun e2 => by rw [e] at e2; have h1 := h k e; have h2 := hu k e2.symm; omega)
/-- A drawn enumeration and a list of definitions. -/
def DrawED (w : World) (e : Ending) (w' : World) : Prop :=
  ∃ (Aa : Option Addr) (ca : Nat) (ds : List D) (AX : Option Addr) (cX : Nat) (xs : List D), e = .returned (.tuple #[.agg #[.slice Aa ds.length ca], .slice AX xs.length cX]) ∧ ds.length ≤ 25 ∧ xs.length ≤ 25 ∧ (∀ d ∈ ds, d.small) ∧ (∀ d ∈ xs, d.small) ∧
    w'.ownsRow w.heap.size 48 2 (.slice Aa ds.length ca) ds.length (flat ds) ∧ w'.ownsRow w.heap.size 48 2 (.slice AX xs.length cX) xs.length (flat xs) ∧ Below w.heap.size w w'
def DrawEDs (w : World) (e : Ending) (w' : World) : Prop :=
  ∃ (Aa : Option Addr) (ca : Nat) (ds : List D) (AX : Option Addr) (cX : Nat) (xs : List D), e = .returned (.tuple #[.agg #[.slice Aa ds.length ca], .slice AX xs.length cX]) ∧ ds.length ≤ 25 ∧ xs.length ≤ 25 ∧ (∀ d ∈ ds, d.small) ∧ (∀ d ∈ xs, d.small) ∧
    SD w' w'.heap.size Aa ds.length ca ds ∧ SD w' w'.heap.size AX xs.length cX xs ∧ Below w.heap.size w w'
theorem drawED_s {w w' : World} {e : Ending} (h : DrawED w e w') : DrawEDs w e w' := by
  obtain ⟨Aa, ca, ds, AX, cX, xs, h1, h2, h3, h4, h5, h6, h7, h8⟩ := h
  exact ⟨Aa, ca, ds, AX, cX, xs, h1, h2, h3, h4, h5, sd_of_own h6 (fun d hd => small_ok (h4 d hd)), sd_of_own h7 (fun d hd => small_ok (h5 d hd)), h8⟩
set_option maxHeartbeats 16000000 in
theorem drawTableOf_any (A : Option Addr) (n c : Nat) (zs : List Int) (w : World) (h : SB w w.heap.size A n c zs) :
    Calls Try.prog 20 #[.slice A n c] w (DrawED w) := by
  have HS := Lib.hid h
  clear h
  go_enter Try.func20, Try.ntmps20
  go_wp2_with fail
  refine (newReader_any A n c zs _ (HS.out.alloc0 _)).mono ?_
  rintro e w1 ⟨R, A1, cb, z1, rfl, hR, hr, hb⟩
  have X0_1 : Hid (Cl w1 w.heap.size (.slice none 0 0)) := Lib.hid (clNew hb)
  have HB1 : Hid (Below w.heap.size w w1) := Lib.hid (((Below.refl _ _).alloc (Nat.le_refl _) _).trans (hb.mono (by simp)))
  have HR_1 := Lib.hid hr
  have hRl : w.heap.size + 1 ≤ R := by simpa using hR
  have hR1 := HR_1.out.lt
  clear hr hb hR
  go_wp2_with fail
  refine (someEnum_any R _ A1 cb z1 0 _ HR_1.out (by omega)).mono ?_
  rintro e w2 ⟨Aa, ca, ds, p1, rfl, hna, hsa, hoa, hp1, hg, hr⟩
  have X0_2 := Lib.hid (X0_1.out.grown hg (fun e => by injection e with e; omega))
  have HG_2 : Hid (w1.grownBy w2 (some R)) := Lib.hid hg
  have HR_2 := Lib.hid hr
  have HD_2 := Lib.hid hoa
  have HSa := Lib.hid hsa
  have hz2 : w1.heap.size ≤ w2.heap.size := hg.size
  have HDL1 : Hid (∀ q, (Value.slice Aa ds.length ca).ownBlock = some q → q < w2.heap.size) := Lib.hid (fun q hq => (hoa.lt q hq).2)
  clear hg hr hoa hsa X0_1 HR_1
  obtain ⟨w3, hw⟩ : ∃ W : World, W = ((w2.alloc (.cells #[.slice Aa ds.length ca] 32)).alloc (.cells #[] 48)) := ⟨_, rfl⟩
  have hb : Below w2.heap.size w2 w3 := by rw [hw]; exact ((Below.refl _ _).alloc (Nat.le_refl _) _).alloc (by simp) _
  have hs3 : w3.heap.size = w2.heap.size + 2 := by rw [hw]; simp
  have CA_3 : Hid (Cl w3 w2.heap.size (.slice Aa ds.length ca)) := Lib.hid (by rw [hw]; exact ⟨by simp [go_sem], by simp [go_sem]⟩)
  have HX_3 : Hid (w3.ownsRow (w2.heap.size + 1) 48 2 (.slice (some ⟨w2.heap.size + 1, 0, none⟩) 0 0) 0 (flat [])) := Lib.hid (by rw [hw, ← World.size_alloc w2 (.cells #[.slice Aa ds.length ca] 32)]; exact World.ownsRow_made (w2.alloc (.cells #[.slice Aa ds.length ca] 32)) #[] 0 (Nat.le_refl _) (by unfold maxLen; omega) rfl)
  have X0_3 := Lib.hid (X0_2.out.below hb)
  have HD_3 := Lib.hid (own_below HD_2.out hb)
  have HG_3 : Hid (w1.grownBy w3 (some R)) := Lib.hid (grown_below HG_2.out (hb.mono HG_2.out.size))
  have HR_3 := Lib.hid (HR_2.out.below hb)
  have HW3 : Hid (((w2.alloc (.cells #[.slice Aa ds.length ca] 32)).alloc (.cells #[] 48)) = w3) := Lib.hid hw.symm
  have lfa : ((w2.alloc (.cells #[.slice Aa ds.length ca] 32)).alloc (.cells #[] 48)).cell? ⟨w2.heap.size, 0, none⟩ = some (.slice Aa ds.length ca) := by rw [HW3.out]; exact CA_3.out.1
  have HSD := Lib.hid (sd_of_own HD_3.out (fun d hd => small_ok (HSa.out d hd)))
  clear hb hw X0_2 HD_2 HG_2 HR_2
  obtain ⟨G, hG⟩ : ∃ G, w2.heap.size + 1 = G := ⟨_, rfl⟩
  have HDL : Hid (∀ q, (Value.slice Aa ds.length ca).ownBlock = some q → q < G) := Lib.hid (fun q hq => by have := HDL1.out q hq; omega)
  go_wp2_with fail
  rw [HW3.out]
  clear lfa HW3
  refine (members_any ds _ _ _ _ HSD.out (by omega)).mono ?_
  rintro e w4 ⟨Am, cm, rfl, hom, hb⟩
  have X0_4 := Lib.hid (X0_3.out.below hb)
  have CA_4 := Lib.hid (CA_3.out.below hb)
  have HD_4 := Lib.hid (own_below HD_3.out hb)
  have HX_4 : Hid (w4.ownsRow G 48 2 (.slice (some ⟨G, 0, none⟩) 0 0) 0 (flat [])) := Lib.hid (by rw [← hG]; exact own_below HX_3.out hb)
  have HG_4 : Hid (w1.grownBy w4 (some R)) := Lib.hid (grown_below HG_3.out (hb.mono HG_3.out.size))
  have HR_4 := Lib.hid (HR_3.out.below hb)
  have hml := mems_len (ds := ds)
  have HMS : Hid (∀ d ∈ mems ds, d.small) := Lib.hid (fun d hd => HSa.out d (memTo_in ds _ d hd))
  obtain ⟨ms, hm⟩ : ∃ m, mems ds = m := ⟨_, rfl⟩
  rw [hm] at hml HMS hom ⊢
  obtain ⟨L, hL⟩ : ∃ L, w3.heap.size = L := ⟨_, rfl⟩
  rw [hL] at hom
  have hz4 : L ≤ w4.heap.size := by have := hb.size; omega
  have HM_4 := Lib.hid hom
  have hGL : G < L := by omega
  have HAP : Hid (Apart (.slice (some ⟨G, 0, none⟩) 0 0) (.slice Am ms.length cm)) := Lib.hid (apart_lt (G := L) (fun q hq => by have := (HX_4.out.lt q hq).2; first | (injection hq with e1; omega) | (cases hq; omega) | omega) (fun q hq => (HM_4.out.lt q hq).1))
  clear hb hm hom X0_3 CA_3 HD_3 HX_3 HG_3 HR_3 HSD HDL1
  have g1 : w.heap.size + 1 ≤ w2.heap.size := by omega
  have hG2 : w2.heap.size < G := by omega
  have hw1G : w1.heap.size ≤ G := by omega
  have hRC : R < w2.heap.size := by omega
  generalize w2.heap.size = C at *
  have HhG := Lib.hid hG
  have HhL := Lib.hid hL
  clear hG hL hs3 hz2
  have hd1 : ¬ C = w.heap.size := by omega
  have hd2 : ¬ w.heap.size = C := by omega
  have hms : ms.length ≤ 25 := by omega
  clear hml
  go_wp2
  go_loopw [6, 8] (fun v i wr => ∃ (k : Nat) (xs : List D) (p' : Nat), i = .int .i64 ((k : Int) - 1) ∧ k ≤ ms.length ∧ xs.length + k ≤ 25 ∧ p' + 2 * k ≤ p1 + 50 ∧ Hid (∀ d ∈ xs, d.small) ∧ Hid (Apart v (.slice Am ms.length cm)) ∧ Hid (Cl wr w.heap.size (.slice none 0 0)) ∧ Hid (Cl wr C (.slice Aa ds.length ca)) ∧ Hid (wr.ownsRow w1.heap.size 48 2 (.slice Aa ds.length ca) ds.length (flat ds)) ∧ Hid (wr.ownsRow G 48 2 v xs.length (flat xs)) ∧ Hid (wr.ownsRow L 48 2 (.slice Am ms.length cm) ms.length (flat ms)) ∧ Hid (w1.grownBy wr (some R)) ∧ Hid (Rdr wr R _ A1 cb z1 p') ∧ L ≤ wr.heap.size) (fun _ i _ => (intOf i + 1).toNat)
  case atStart => exact ⟨ms.length, [], p1, by go_num, by omega, by simp; omega, by omega, Lib.hid (fun t ht => by cases ht), HAP, X0_4, CA_4, HD_4, HX_4, HM_4, HG_4, HR_4, hz4⟩
  case round =>
    clear HX_4 X0_4 CA_4 HD_4 HM_4 HG_4 HR_4 hz4 HAP
    obtain ⟨k, xs, p2, rfl, hk, hxl, hpp, HXS, HAP, X0_w, CA_w, HD_w, HX_w, HM_w, HG_w, HR_w, hz_w⟩ := hrel
    obtain ⟨AX, cX, hvx⟩ := own_form HX_w.out
    subst hvx
    obtain ⟨w5, hwn⟩ : ∃ W : World, W = wr := ⟨_, rfl⟩
    subst hwn
    have X0_5 := X0_w
    have CA_5 := CA_w
    have HD_5 := HD_w
    have HX_5 := HX_w
    have HM_5 := HM_w
    have HG_5 := HG_w
    have HR_5 := HR_w
    have hz5 := hz_w
    clear X0_w CA_w HD_w HX_w HM_w HG_w HR_w hz_w
    by_cases h0 : k = 0
    · subst h0
      have hi0 : ((0 : Nat) : Int) - 1 = -1 := rfl
      rw [hi0]
      clear HM_5 HAP
      by_cases hx0 : xs.length = 0
      · have hx1 : ¬ (0 < (xs.length : Int)) := by omega
        have HX0 := Lib.hid hx0
        clear hx0
        obtain ⟨x0, f0⟩ := id X0_5.out
        have c0 := CA_5.out.1
        go_wp2
        refine bodyPost_ret (v := .tuple #[.agg #[.slice Aa ds.length ca], .slice AX xs.length cX]) (by simp [results, Try.results20, go_sem, x0, hd1, hd2]) rfl ⟨Aa, ca, ds, AX, cX, xs, rfl, hna, by omega, HSa.out, HXS.out, ?_, ?_, ?_⟩
        · exact own_base (own_setCell HD_5.out (fun e => by have := (HD_5.out.lt _ e).1; simp only at this; omega) _) (by omega)
        · exact own_base (own_setCell HX_5.out (fun e => by have := (HX_5.out.lt _ e).1; simp only at this; omega) _) (by omega)
        · exact (HB1.out.grown HG_5.out HB1.out.size (fun k hk => by cases hk; omega)).setCell (Nat.le_refl _) _
      have hx1 : (0 < (xs.length : Int)) := by omega
      go_wp2_with fail
      refine (pick_any 6 R _ A1 cb z1 p2 _ HR_5.out (by omega) (by omega) (by omega)).mono ?_
      rintro e w6 ⟨r, rfl, r0, r1, hg, hr⟩
      clear r1
      have X0_6 := Lib.hid (X0_5.out.grown hg (fun e => by injection e with e; omega))
      have CA_6 := Lib.hid (CA_5.out.grown hg (fun e => by injection e with e; omega))
      have HD_6 := Lib.hid (HD_5.out.kept hg (own_neR HD_5.out (by omega)))
      have HX_6 := Lib.hid (HX_5.out.kept hg (own_neR HX_5.out (by omega)))
      have HG_6 : Hid (w1.grownBy w6 (some R)) := Lib.hid (HG_5.out.trans hg)
      have HR_6 := Lib.hid hr
      have hz6 : L ≤ w6.heap.size := by have := hg.size; omega
      clear hg hr
      clear X0_5 CA_5 HD_5 HX_5 HG_5 HR_5
      by_cases hr0 : r = 0
      · subst hr0
        go_wp2_with fail
        refine (pick_any (xs.length : Int) R _ A1 cb z1 (p2 + 1) _ HR_6.out (by omega) (by omega) (by omega)).mono ?_
        rintro e w7 ⟨kk, rfl, k0, k1, hg, hr⟩
        obtain ⟨kk, rfl⟩ := Int.eq_ofNat_of_zero_le k0
        have hkk := k1 (by omega)
        clear k0 k1
        have X0_7 := Lib.hid (X0_6.out.grown hg (fun e => by injection e with e; omega))
        have CA_7 := Lib.hid (CA_6.out.grown hg (fun e => by injection e with e; omega))
        have HD_7 := Lib.hid (HD_6.out.kept hg (own_neR HD_6.out (by omega)))
        have HX_7 := Lib.hid (HX_6.out.kept hg (own_neR HX_6.out (by omega)))
        have HG_7 : Hid (w1.grownBy w7 (some R)) := Lib.hid (HG_6.out.trans hg)
        have HR_7 := Lib.hid hr
        have hz7 : L ≤ w7.heap.size := by have := hg.size; omega
        clear hg hr
        clear X0_6 CA_6 HD_6 HX_6 HG_6 HR_6
        have hkn : kk < xs.length := by omega
        go_wp2_with fail
        refine (pick_any 3 R _ A1 cb z1 (p2 + 1 + 1) _ HR_7.out (by omega) (by omega) (by omega)).mono ?_
        rintro e w8 ⟨r3, rfl, r30, r31, hg, hr⟩
        clear r31
        have X0_8 := Lib.hid (X0_7.out.grown hg (fun e => by injection e with e; omega))
        have CA_8 := Lib.hid (CA_7.out.grown hg (fun e => by injection e with e; omega))
        have HD_8 := Lib.hid (HD_7.out.kept hg (own_neR HD_7.out (by omega)))
        have HX_8 := Lib.hid (HX_7.out.kept hg (own_neR HX_7.out (by omega)))
        have HG_8 : Hid (w1.grownBy w8 (some R)) := Lib.hid (HG_7.out.trans hg)
        have HR_8 := Lib.hid hr
        have hz8 : L ≤ w8.heap.size := by have := hg.size; omega
        clear hg hr
        clear X0_7 CA_7 HD_7 HX_7 HG_7 HR_7
        obtain ⟨g, hAs, hbg, hgl⟩ := own_addr HX_8.out (by omega)
        subst hAs
        have hcapE := (sd_of_own HX_8.out (fun d hd => small_ok (HXS.out d hd))).cap
        have hmaxE := (sd_of_own HX_8.out (fun d hd => small_ok (HXS.out d hd))).max
        unfold maxLen at hmaxE
        have hki0 : (0 : Int) ≤ (kk : Int) := by omega
        by_cases hr3 : r3 = 0
        · have z3 : (r3 == 0) = true := beq_iff_eq.2 hr3
          clear hr3
          go_wp2_with fail
          refine (anyName_any R _ A1 cb z1 (p2 + 1 + 1 + 1) _ HR_8.out (by omega)).mono ?_
          rintro e w9 ⟨s, pa, rfl, hsz, hpa, hg, hr⟩
          have X0_9 := Lib.hid (X0_8.out.grown hg (fun e => by injection e with e; omega))
          have CA_9 := Lib.hid (CA_8.out.grown hg (fun e => by injection e with e; omega))
          have HD_9 := Lib.hid (HD_8.out.kept hg (own_neR HD_8.out (by omega)))
          have HX_9 := Lib.hid (HX_8.out.kept hg (own_neR HX_8.out (by omega)))
          have HG_9 : Hid (w1.grownBy w9 (some R)) := Lib.hid (HG_8.out.trans hg)
          have HR_9 := Lib.hid hr
          have hz9 : L ≤ w9.heap.size := by have := hg.size; omega
          clear hg hr
          clear X0_8 CA_8 HD_8 HX_8 HG_8 HR_8
          have hf2 := HX_9.out.frozenAt (kk * 2)
          obtain ⟨y2, hx2⟩ := own_cell HX_9.out (kk * 2) (by omega)
          have hs2 := HX_9.out.stored (kk * 2) (.string s)
          obtain ⟨w10, hw⟩ : ∃ W : World, W = (w9.setCell ⟨g, kk * 2, none⟩ (.string s)) := ⟨_, rfl⟩
          have hb : Below G w9 w10 := by rw [hw]; exact (Below.refl _ _).setCell hbg _
          have X0_10 := Lib.hid (clLowB X0_9.out hb (by omega))
          have CA_10 := Lib.hid (clLowB CA_9.out hb (by omega))
          have HD_10 := Lib.hid (ownLowB HD_9.out hb (fun q hq => by have := HDL.out q hq; omega))
          have HX_10 : Hid (w10.ownsRow G 48 2 (.slice (some ⟨g, 0, none⟩) (xs.set kk ⟨s, xs[kk].val⟩).length cX) (xs.set kk ⟨s, xs[kk].val⟩).length (flat (xs.set kk ⟨s, xs[kk].val⟩))) := Lib.hid (by rw [List.length_set, ← flat_set_name xs kk hkn s, hw]; exact hs2.1)
          have HG_10 : Hid (w1.grownBy w10 (some R)) := Lib.hid (grown_below HG_9.out (hb.mono (by omega)))
          have HW10 : Hid ((w9.setCell ⟨g, kk * 2, none⟩ (.string s)) = w10) := Lib.hid hw.symm
          have HLE : Hid (xs.length = (xs.set kk ⟨s, xs[kk].val⟩).length) := Lib.hid (by rw [List.length_set])
          have x0 := X0_10.out.1
          have f0 := X0_10.out.2
          have c0 := CA_10.out.1
          have x0' : (w9.setCell ⟨g, kk * 2, none⟩ (.string s)).cell? ⟨w.heap.size, 0, none⟩ = some (.slice none 0 0) := by rw [← hw]; exact x0
          have f0' : (w9.setCell ⟨g, kk * 2, none⟩ (.string s)).frozen? ⟨w.heap.size, 0, none⟩ = false := by rw [← hw]; exact f0
          have c0' : (w9.setCell ⟨g, kk * 2, none⟩ (.string s)).cell? ⟨C, 0, none⟩ = some (.slice Aa ds.length ca) := by rw [← hw]; exact c0
          clear hw hb hs2
          go_wp2
          rw [HW10.out]
          refine bodyPost_ret (v := .tuple #[.agg #[.slice Aa ds.length ca], .slice (some ⟨g, 0, none⟩) (xs.set kk ⟨s, xs[kk].val⟩).length cX]) (by rw [← HLE.out]; simp [results, Try.results20, go_sem, x0, hd1, hd2]) rfl ⟨Aa, ca, ds, (some ⟨g, 0, none⟩), cX, (xs.set kk ⟨s, xs[kk].val⟩), rfl, hna, by have := HLE.out; omega, HSa.out, ?_, ?_, ?_, ?_⟩
          · exact fun d hd => by rcases List.mem_or_eq_of_mem_set hd with h | h; exact HXS.out d h; subst h; exact ⟨hsz, (HXS.out _ (List.getElem_mem hkn)).2⟩
          · exact own_base (own_setCell HD_10.out (fun e => by have := (HD_10.out.lt _ e).1; simp only at this; omega) _) (by omega)
          · exact own_base (own_setCell HX_10.out (fun e => by have := (HX_10.out.lt _ e).1; simp only at this; omega) _) (by omega)
          · exact (HB1.out.grown HG_10.out HB1.out.size (fun k hk => by cases hk; omega)).setCell (Nat.le_refl _) _
        have z3 : (r3 == 0) = false := beq_eq_false_iff_ne.2 hr3
        by_cases hr4 : r3 = 1
        · have z4 : (r3 == 1) = true := beq_iff_eq.2 hr4
          clear hr3 hr4
          have hf2 := HX_8.out.frozenAt (kk * 2 + 1)
          obtain ⟨y2, hx2⟩ := own_cell HX_8.out (kk * 2 + 1) (by omega)
          have hs2 := HX_8.out.stored (kk * 2 + 1) (.int .i64 1001)
          obtain ⟨w9, hw⟩ : ∃ W : World, W = (w8.setCell ⟨g, kk * 2 + 1, none⟩ (.int .i64 1001)) := ⟨_, rfl⟩
          have hb : Below G w8 w9 := by rw [hw]; exact (Below.refl _ _).setCell hbg _
          have X0_9 := Lib.hid (clLowB X0_8.out hb (by omega))
          have CA_9 := Lib.hid (clLowB CA_8.out hb (by omega))
          have HD_9 := Lib.hid (ownLowB HD_8.out hb (fun q hq => by have := HDL.out q hq; omega))
          have HX_9 : Hid (w9.ownsRow G 48 2 (.slice (some ⟨g, 0, none⟩) (xs.set kk ⟨xs[kk].name, 1001⟩).length cX) (xs.set kk ⟨xs[kk].name, 1001⟩).length (flat (xs.set kk ⟨xs[kk].name, 1001⟩))) := Lib.hid (by rw [List.length_set, ← flat_set_val xs kk hkn 1001, hw]; exact hs2.1)
          have HG_9 : Hid (w1.grownBy w9 (some R)) := Lib.hid (grown_below HG_8.out (hb.mono (by omega)))
          have HW9 : Hid ((w8.setCell ⟨g, kk * 2 + 1, none⟩ (.int .i64 1001)) = w9) := Lib.hid hw.symm
          have HLE : Hid (xs.length = (xs.set kk ⟨xs[kk].name, 1001⟩).length) := Lib.hid (by rw [List.length_set])
          have x0 := X0_9.out.1
          have f0 := X0_9.out.2
          have c0 := CA_9.out.1
          have x0' : (w8.setCell ⟨g, kk * 2 + 1, none⟩ (.int .i64 1001)).cell? ⟨w.heap.size, 0, none⟩ = some (.slice none 0 0) := by rw [← hw]; exact x0
          have f0' : (w8.setCell ⟨g, kk * 2 + 1, none⟩ (.int .i64 1001)).frozen? ⟨w.heap.size, 0, none⟩ = false := by rw [← hw]; exact f0
          have c0' : (w8.setCell ⟨g, kk * 2 + 1, none⟩ (.int .i64 1001)).cell? ⟨C, 0, none⟩ = some (.slice Aa ds.length ca) := by rw [← hw]; exact c0
          clear hw hb hs2
          go_wp2
          rw [HW9.out]
          refine bodyPost_ret (v := .tuple #[.agg #[.slice Aa ds.length ca], .slice (some ⟨g, 0, none⟩) (xs.set kk ⟨xs[kk].name, 1001⟩).length cX]) (by rw [← HLE.out]; simp [results, Try.results20, go_sem, x0, hd1, hd2]) rfl ⟨Aa, ca, ds, (some ⟨g, 0, none⟩), cX, (xs.set kk ⟨xs[kk].name, 1001⟩), rfl, hna, by have := HLE.out; omega, HSa.out, ?_, ?_, ?_, ?_⟩
          · exact fun d hd => by rcases List.mem_or_eq_of_mem_set hd with h | h; exact HXS.out d h; subst h; exact ⟨(HXS.out _ (List.getElem_mem hkn)).1, by show (-5000 : Int) ≤ 1001; omega, by show (1001 : Int) ≤ 5000; omega⟩
          · exact own_base (own_setCell HD_9.out (fun e => by have := (HD_9.out.lt _ e).1; simp only at this; omega) _) (by omega)
          · exact own_base (own_setCell HX_9.out (fun e => by have := (HX_9.out.lt _ e).1; simp only at this; omega) _) (by omega)
          · exact (HB1.out.grown HG_9.out HB1.out.size (fun k hk => by cases hk; omega)).setCell (Nat.le_refl _) _
        have z4 : (r3 == 1) = false := beq_eq_false_iff_ne.2 hr4
        clear hr3 hr4
        have HSDE := Lib.hid (sd_of_own HX_8.out (fun d hd => small_ok (HXS.out d hd)))
        go_wp2_with fail
        refine (dropped_any xs kk _ _ _ _ HSDE.out hkn (by omega)).mono ?_
        rintro e w9 ⟨An, cn, rfl, hoc, hb⟩
        have X0_9 := Lib.hid (X0_8.out.below hb)
        have CA_9 := Lib.hid (CA_8.out.below hb)
        have HD_9 := Lib.hid (own_below HD_8.out hb)
        have HG_9 : Hid (w1.grownBy w9 (some R)) := Lib.hid (grown_below HG_8.out (hb.mono HG_8.out.size))
        have HX_9 : Hid (w9.ownsRow G 48 2 (.slice An (ers xs kk).length cn) (ers xs kk).length (flat (ers xs kk))) := Lib.hid (own_base hoc (by omega))
        clear hb hoc HSDE
        obtain ⟨x0, f0⟩ := id X0_9.out
        have c0 := CA_9.out.1
        go_wp2
        refine bodyPost_ret (v := .tuple #[.agg #[.slice Aa ds.length ca], .slice An (ers xs kk).length cn]) (by simp [results, Try.results20, go_sem, x0, hd1, hd2]) rfl ⟨Aa, ca, ds, An, cn, (ers xs kk), rfl, hna, by have := ers_len xs kk hkn; omega, HSa.out, (fun d hd => HXS.out d (ers_mem hd)), ?_, ?_, ?_⟩
        · exact own_base (own_setCell HD_9.out (fun e => by have := (HD_9.out.lt _ e).1; simp only at this; omega) _) (by omega)
        · exact own_base (own_setCell HX_9.out (fun e => by have := (HX_9.out.lt _ e).1; simp only at this; omega) _) (by omega)
        · exact (HB1.out.grown HG_9.out HB1.out.size (fun k hk => by cases hk; omega)).setCell (Nat.le_refl _) _
      obtain ⟨x0, f0⟩ := id X0_6.out
      have c0 := CA_6.out.1
      go_wp2
      refine bodyPost_ret (v := .tuple #[.agg #[.slice Aa ds.length ca], .slice AX xs.length cX]) (by simp [results, Try.results20, go_sem, x0, hd1, hd2]) rfl ⟨Aa, ca, ds, AX, cX, xs, rfl, hna, by omega, HSa.out, HXS.out, ?_, ?_, ?_⟩
      · exact own_base (own_setCell HD_6.out (fun e => by have := (HD_6.out.lt _ e).1; simp only at this; omega) _) (by omega)
      · exact own_base (own_setCell HX_6.out (fun e => by have := (HX_6.out.lt _ e).1; simp only at this; omega) _) (by omega)
      · exact (HB1.out.grown HG_6.out HB1.out.size (fun k hk => by cases hk; omega)).setCell (Nat.le_refl _) _
    obtain ⟨k, rfl⟩ : ∃ j, k = j + 1 := ⟨k - 1, by omega⟩
    clear h0
    have hi : ((k + 1 : Nat) : Int) - 1 = (k : Int) := by omega
    rw [hi]
    have hk0 : (0 : Int) ≤ (k : Int) := by omega
    have hkm : k < ms.length := by omega
    have hkM : (k : Int) < (ms.length : Int) := by omega
    obtain ⟨g, hAm, hbg, hgl⟩ := own_addr HM_5.out (by omega)
    subst hAm
    have hcapM := (sd_of_own HM_5.out (fun d hd => small_ok (HMS.out d hd))).cap
    have hmaxM := (sd_of_own HM_5.out (fun d hd => small_ok (HMS.out d hd))).max
    unfold maxLen at hmaxM
    have nk_5 : w5.cell? ⟨g, k * 2, none⟩ = some (.string ms[k].name) := by rw [HM_5.out.cellAt (k * 2) (by omega)]; exact (flat_get ms k hkm).1
    go_upto_region 8 with fail
    refine wp_region_held_drew (S := fun w' => w'.cell? ⟨g, k * 2, none⟩ = some (.string ms[k].name)) (by kernel_rfl) nk_5 (fun hHeld => ?_)
    generalize hwd : w5.drew = w6 at hHeld ⊢
    have hb : Below w5.heap.size w5 w6 := by rw [← hwd]; exact (Below.refl _ _).drew
    have X0_6 := Lib.hid (X0_5.out.below hb)
    have CA_6 := Lib.hid (CA_5.out.below hb)
    have HD_6 := Lib.hid (own_below HD_5.out hb)
    have HX_6 := Lib.hid (own_below HX_5.out hb)
    have HM_6 := Lib.hid (own_below HM_5.out hb)
    have HG_6 : Hid (w1.grownBy w6 (some R)) := Lib.hid (grown_below HG_5.out (hb.mono HG_5.out.size))
    have HR_6 := Lib.hid (HR_5.out.below hb)
    have hz6 : L ≤ w6.heap.size := by have := hb.size; omega
    have nk_6 := keep1 hb nk_5
    clear hb hwd nk_5
    clear X0_5 CA_5 HD_5 HX_5 HM_5 HG_5 HR_5
    refine wpAnyH_take (i := 0) (v := ?_) rfl (by kernel_rfl) (by kernel_rfl) (by kernel_rfl) (fun _ _ _ h => h) (Or.inl ⟨by kernel_rfl, ?_⟩) hHeld ?_
    rotate_left
    · intro wz hSw
      try dsimp only at hSw
      first
      | (go_simp; done)
      | (go_simp; with_reducible rfl)
    try simp only [Act.put, List.setIfInBounds_toArray, List.set_cons_zero, List.set_cons_succ]
    refine wpAnyH_take (i := 1) (v := ?_) rfl (by kernel_rfl) (by kernel_rfl) (by kernel_rfl) (fun _ _ _ h => h) (Or.inl ⟨by kernel_rfl, ?_⟩) hHeld ?_
    rotate_left
    · intro wz hSw
      try dsimp only at hSw
      first
      | (go_simp; done)
      | (go_simp; with_reducible rfl)
    try simp only [Act.put, List.setIfInBounds_toArray, List.set_cons_zero, List.set_cons_succ]
    refine wpAnyH_take (i := 2) (v := ?_) rfl (by kernel_rfl) (by kernel_rfl) (by kernel_rfl) (fun _ _ _ h => h) (Or.inl ⟨by kernel_rfl, ?_⟩) hHeld ?_
    rotate_left
    · intro wz hSw
      try dsimp only at hSw
      first
      | (go_simp; done)
      | (go_simp; with_reducible rfl)
    try simp only [Act.put, List.setIfInBounds_toArray, List.set_cons_zero, List.set_cons_succ]
    refine wpAnyH_take (i := 3) (v := ?_) rfl (by kernel_rfl) (by kernel_rfl) (by kernel_rfl) (fun _ _ _ h => h) (Or.inl ⟨by kernel_rfl, ?_⟩) hHeld ?_
    rotate_left
    · intro wz hSw
      try dsimp only at hSw
      first
      | (go_simp; done)
      | (go_simp; with_reducible rfl)
    try simp only [Act.put, List.setIfInBounds_toArray, List.set_cons_zero, List.set_cons_succ]
    refine wpAnyH_take (i := 4) (v := ?_) rfl (by kernel_rfl) (by kernel_rfl) (by kernel_rfl) (fun _ _ _ h => h) (Or.inl ⟨by kernel_rfl, ?_⟩) hHeld ?_
    rotate_left
    · intro wz hSw
      try dsimp only at hSw
      first
      | (go_simp; done)
      | (go_simp; with_reducible rfl)
    try simp only [Act.put, List.setIfInBounds_toArray, List.set_cons_zero, List.set_cons_succ]
    refine wpAnyH_take (i := 5) (v := ?_) rfl (by kernel_rfl) (by kernel_rfl) (by kernel_rfl) (fun _ _ _ h => h) (Or.inl ⟨by kernel_rfl, ?_⟩) hHeld ?_
    rotate_left
    · intro wz hSw
      try dsimp only at hSw
      first
      | (go_simp; done)
      | (go_simp; with_reducible rfl)
    try simp only [Act.put, List.setIfInBounds_toArray, List.set_cons_zero, List.set_cons_succ]
    refine wpAnyH_take (i := 6) (v := ?_) rfl (by kernel_rfl) (by kernel_rfl) (by kernel_rfl) (fun _ _ _ h => h) (Or.inl ⟨by kernel_rfl, ?_⟩) hHeld ?_
    rotate_left
    · intro wz hSw
      try dsimp only at hSw
      first
      | (go_simp; done)
      | (go_simp; with_reducible rfl)
    try simp only [Act.put, List.setIfInBounds_toArray, List.set_cons_zero, List.set_cons_succ]
    refine wpAnyH_take (i := 7) (v := ?_) rfl (by kernel_rfl) (by kernel_rfl) (by kernel_rfl) (fun _ _ _ h => h) (Or.inl ⟨by kernel_rfl, ?_⟩) hHeld ?_
    rotate_left
    · intro wz hSw
      try dsimp only at hSw
      first
      | (go_simp; done)
      | (go_simp; with_reducible rfl)
    try simp only [Act.put, List.setIfInBounds_toArray, List.set_cons_zero, List.set_cons_succ]
    refine wpAnyH_ready (rs := [8]) (by kernel_rfl) (by simp) ?_
    refine AllReadyH.cons rfl (fun K hK => ?_) AllReadyH.nil
    go_simp
    go_at_call 58
    refine (pick_any 20 R _ A1 cb z1 p2 _ HR_6.out (by omega) (by omega) (by omega)).mono ?_
    rintro e w7 ⟨r, rfl, r0, r1, hg, hr⟩
    have hr20 := r1 (by omega)
    clear r1
    have nk_7 := hg.cell nk_6 (fun e => by have e2 : g = R := Option.some.inj e; omega)
    have X0_7 := Lib.hid (X0_6.out.grown hg (fun e => by injection e with e; omega))
    have CA_7 := Lib.hid (CA_6.out.grown hg (fun e => by injection e with e; omega))
    have HD_7 := Lib.hid (HD_6.out.kept hg (own_neR HD_6.out (by omega)))
    have HX_7 := Lib.hid (HX_6.out.kept hg (own_neR HX_6.out (by omega)))
    have HM_7 := Lib.hid (HM_6.out.kept hg (own_neR HM_6.out (by omega)))
    have HG_7 : Hid (w1.grownBy w7 (some R)) := Lib.hid (HG_6.out.trans hg)
    have HR_7 := Lib.hid hr
    have hz7 : L ≤ w7.heap.size := by have := hg.size; omega
    clear hg hr
    clear X0_6 CA_6 HD_6 HX_6 HM_6 HG_6 HR_6
    refine hK.out _ _ nk_7 (fun hHeld => ?_)
    clear hK K
    try simp only [Act.put, List.setIfInBounds_toArray, List.set_cons_zero, List.set_cons_succ]
    refine wpAnyH_ready (rs := [9]) (by kernel_rfl) (by simp) ?_
    refine AllReadyH.cons rfl (fun K hK => ?_) AllReadyH.nil
    go_simp
    obtain ⟨w8, hw⟩ : ∃ W : World, W = (w7.alloc (.cells #[.int .i64 1, .int .i64 5, .int .i64 r, .int .i64 (-3), .int .i64 1000] 3)) := ⟨_, rfl⟩
    have hb : Below w7.heap.size w7 w8 := by rw [hw]; exact (Below.refl _ _).alloc (Nat.le_refl _) _
    have X0_8 := Lib.hid (X0_7.out.below hb)
    have CA_8 := Lib.hid (CA_7.out.below hb)
    have HD_8 := Lib.hid (own_below HD_7.out hb)
    have HX_8 := Lib.hid (own_below HX_7.out hb)
    have HM_8 := Lib.hid (own_below HM_7.out hb)
    have HG_8 : Hid (w1.grownBy w8 (some R)) := Lib.hid (grown_below HG_7.out (hb.mono HG_7.out.size))
    have HR_8 := Lib.hid (HR_7.out.below hb)
    have hz8 : L ≤ w8.heap.size := by have := hb.size; omega
    have nk_8 := keep1 hb nk_7
    have HW8 : Hid ((w7.alloc (.cells #[.int .i64 1, .int .i64 5, .int .i64 r, .int .i64 (-3), .int .i64 1000] 3)) = w8) := Lib.hid hw.symm
    have hlit : Hid (∀ i, i < 5 → ∃ v : Int, w8.cell? ⟨w7.heap.size, i, none⟩ = some (.int .i64 v) ∧ (-3) ≤ v ∧ v ≤ 1000) := Lib.hid (by rw [hw]; exact litI rfl rfl (by simp [allI]; try omega))
    clear hb hw nk_7
    clear X0_7 CA_7 HD_7 HX_7 HM_7 HG_7 HR_7
    try rw [HW8.out]
    refine hK.out _ _ nk_8 (fun hHeld => ?_)
    clear hK K
    try simp only [Act.put, List.setIfInBounds_toArray, List.set_cons_zero, List.set_cons_succ]
    refine wpAnyH_ready (rs := [10]) (by kernel_rfl) (by simp) ?_
    refine AllReadyH.cons rfl (fun K hK => ?_) AllReadyH.nil
    go_simp
    go_at_call 57
    refine (one_any (-3) 1000 R _ A1 cb z1 (p2 + 1) w7.heap.size 5 5 _ HR_8.out (by omega) (by omega) (by omega) (by omega) hlit.out).mono ?_
    rintro e w9 ⟨v, rfl, v0, v1, hg, hr⟩
    have nk_9 := hg.cell nk_8 (fun e => by have e2 : g = R := Option.some.inj e; omega)
    have X0_9 := Lib.hid (X0_8.out.grown hg (fun e => by injection e with e; omega))
    have CA_9 := Lib.hid (CA_8.out.grown hg (fun e => by injection e with e; omega))
    have HD_9 := Lib.hid (HD_8.out.kept hg (own_neR HD_8.out (by omega)))
    have HX_9 := Lib.hid (HX_8.out.kept hg (own_neR HX_8.out (by omega)))
    have HM_9 := Lib.hid (HM_8.out.kept hg (own_neR HM_8.out (by omega)))
    have HG_9 : Hid (w1.grownBy w9 (some R)) := Lib.hid (HG_8.out.trans hg)
    have HR_9 := Lib.hid hr
    have hz9 : L ≤ w9.heap.size := by have := hg.size; omega
    clear hg hr
    clear X0_8 CA_8 HD_8 HX_8 HM_8 HG_8 HR_8
    refine hK.out _ _ nk_9 (fun hHeld => ?_)
    clear hK K
    try simp only [Act.put, List.setIfInBounds_toArray, List.set_cons_zero, List.set_cons_succ]
    refine wpAnyH_take (i := 11) (v := ?_) rfl (by kernel_rfl) (by kernel_rfl) (by kernel_rfl) (fun _ _ _ h => h) (Or.inl ⟨by kernel_rfl, ?_⟩) hHeld ?_
    rotate_left
    · intro wz hSw
      try dsimp only at hSw
      first
      | (go_simp; done)
      | (go_simp; with_reducible rfl)
    try simp only [Act.put, List.setIfInBounds_toArray, List.set_cons_zero, List.set_cons_succ]
    refine wpAnyH_ready (rs := [12]) (by kernel_rfl) (by simp) ?_
    refine AllReadyH.cons rfl (fun K hK => ?_) AllReadyH.nil
    go_simp
    refine hK.out _ _ (keep1 ((Below.refl _ _).alloc (Nat.le_refl _) _) nk_9) (fun hHeld => ?_)
    clear hK K
    try simp only [Act.put, List.setIfInBounds_toArray, List.set_cons_zero, List.set_cons_succ]
    refine wpAnyH_ready (rs := [13]) (by kernel_rfl) (by simp) ?_
    refine AllReadyH.cons rfl (fun K hK => ?_) AllReadyH.nil
    refine step_app_Db rfl _ _ rfl G _ _ _ rfl (HX_9.out.alloc _) ms[k].name v _ _ rfl (heap_alloc_new w9 _) (by omega) (by simp; omega) ?_
    intro v' w10 ho hg hwh
    obtain ⟨A4, c4, rfl⟩ := own_form ho
    replace hg : w9.grownBy w10 (Value.slice AX xs.length cX).ownBlock := (World.grownBy_alloc _ _ _).trans hg
    have HAP' : Hid (Apart (.slice A4 (xs.length + 1) c4) (.slice (some ⟨g, 0, none⟩) ms.length cm)) := Lib.hid (HAP.out.app hwh (fun q hq => by have := (HM_9.out.lt q hq).2; simp; omega))
    have X0_10 := Lib.hid (X0_9.out.grown hg (fun e => by have := (HX_9.out.lt _ e.symm).1; omega))
    have CA_10 := Lib.hid (CA_9.out.grown hg (fun e => by have := (HX_9.out.lt _ e.symm).1; omega))
    have HD_10 := Lib.hid (own_kept_app HD_9.out hg (apart_lt (G := G) HDL.out (fun q hq => (HX_9.out.lt q hq).1)).symm)
    have HM_10 := Lib.hid (own_kept_app HM_9.out hg HAP.out)
    have HG_10 : Hid (w1.grownBy w10 (some R)) := Lib.hid (grown_rowB HG_9.out hg (fun q hq => by have := (HX_9.out.lt q hq).1; omega))
    have HR_10 := Lib.hid (HR_9.out.grown hg (fun e => by have := (HX_9.out.lt R e.symm).1; omega) (fun q hq => by have h1 := (HX_9.out.lt q hq).1; have h2 := HR_9.out.low; omega))
    have hz10 : L ≤ w10.heap.size := by have := hg.size; omega
    have nk_10 : w10.cell? ⟨g, k * 2, none⟩ = some (.string ms[k].name) := by rw [HM_10.out.cellAt (k * 2) (by omega)]; exact (flat_get ms k hkm).1
    have hfl : flat xs ++ [Value.string ms[k].name, Value.int .i64 v] = flat (xs ++ [⟨ms[k].name, v⟩]) := by simp [flat, encD]
    rw [hfl] at ho
    have HX_10 := Lib.hid ho
    clear hg ho hwh hfl HAP
    clear X0_9 CA_9 HD_9 HX_9 HM_9 HG_9 HR_9
    refine hK.out _ _ nk_10 (fun hHeld => ?_)
    clear hK K
    try simp only [Act.put, List.setIfInBounds_toArray, List.set_cons_zero, List.set_cons_succ]
    refine wpAnyH_ready (rs := [14]) (by kernel_rfl) (by simp) ?_
    refine AllReadyH.cons rfl (fun K hK => ?_) AllReadyH.nil
    go_simp
    refine hK.out _ _ nk_10 (fun hHeld => ?_)
    clear hK K
    try simp only [Act.put, List.setIfInBounds_toArray, List.set_cons_zero, List.set_cons_succ]
    refine wpAnyH_done (by kernel_rfl) ?_ _
    go_wp2
    go_roundw
    case rel => exact ⟨k, xs ++ [⟨ms[k].name, v⟩], p2 + 1 + 1, by go_num, by omega, by simp; omega, by omega, Lib.hid (fun d hd => by rcases List.mem_append.1 hd with h | h; exact HXS.out d h; simp at h; subst h; exact ⟨(HMS.out _ (List.getElem_mem hkm)).1, by show (-5000 : Int) ≤ v; omega, by show v ≤ 5000; omega⟩), HAP', X0_10, CA_10, HD_10, Lib.hid (by rw [List.length_append]; exact HX_10.out), HM_10, HG_10, HR_10, hz10⟩
    case measure => simp [intOf]; try omega
theorem drawTableOf_s (A : Option Addr) (n c : Nat) (zs : List Int) (w : World) (h : SB w w.heap.size A n c zs) : Calls Try.prog 20 #[.slice A n c] w (DrawEDs w) := (drawTableOf_any A n c zs w h).mono fun _ _ h => drawED_s h
end Go.Proofs.Ytpmanbmhbfnefaa
