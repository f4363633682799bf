import Derived.Test.YtboehlffbibgmaaGreatDoorGenW
import Derived.Test.YtboehlffbibgmaaGreatDoorGenI
import Derived.Test.YtboehlffbibgmaaGreatDoorAppW
namespace Go.Proofs.YtboehlffbibgmaaGreatDoor
open Go.RowKit
set_option linter.unusedVariables false
set_option linter.unusedSimpArgs false
set_option maxRecDepth 100000

/-- 'append(out, x)', x one text: the row behind it, and what of the world is as it was. -/
theorem wpList_app_Sk {W : World} {ops : Array Oper} {rest : List Oper} {o : Oper} {a : Act} {Q : Exit → Act → World → Prop} (hgd : o.guard = none) (s x : Operand) (ho : o.op = .call { callee := .builtin .append, args := #[s, x], argTypes := #[36, 36] })
    (base : Nat) (v : Value) (n : Nat) (xs : List Value) (hs : a.eval s = v) (hown : W.ownsRow base 9 1 v n xs) (nm : ByteArray)
    (c g : Nat) (hx : a.eval x = .slice (some ⟨g, 0, none⟩) 1 c) (hgw : g = W.heap.size) (hn : n ≤ 2000000) (hbase : base ≤ W.heap.size)
    (h : ∀ v' w', w'.ownsRow base 9 1 v' (n + 1) (xs ++ [.string nm]) → W.grownBy w' v.ownBlock → wpList Tryz.prog ops Q rest (a.put o.dst v') w') :
    wpList Tryz.prog ops Q (o :: rest) a (W.alloc (.cells #[.string nm] 9)) := by
  subst hgw
  obtain ⟨i0, hi, hz0, hz1, hz2⟩ := info_parts info_S
  refine wpList_append_own _ hgd s x _ ho base _ i0 _ 1 16 Tryz.underlying36 hi hz0 hz1 hz2 rfl (by omega) v n xs hs (hown.alloc _) ⟨W.heap.size, 0, none⟩ 1 c [.string nm] hx rfl
    (World.news_of_block (heap_alloc_new W _)) (by simp [Value.oneCell']) (by unfold maxLen; omega) (by omega) (by simp; omega) ?_
  intro v' w' h2 h3 _
  exact h v' w' h2 ((World.grownBy_alloc W _ _).trans h3)
/-- A drawn list of names, and the reader behind it. -/
def NamesP (R B : Nat) (A : Option Addr) (cb : Nat) (zs : List Int) (p : Nat) (w : World) (e : Ending) (w' : World) : Prop :=
  ∃ (A' : Option Addr) (c : Nat) (ss : List ByteArray) (p' : Nat), e = .returned (.slice A' ss.length c) ∧ ss.length ≤ 3 ∧ (∀ s ∈ ss, s.size ≤ 100) ∧
    w'.ownsRow w.heap.size 9 1 (.slice A' ss.length c) ss.length (ss.map .string) ∧ p' ≤ p + 20 ∧ w.grownBy w' (some R) ∧ Rdr w' R B A cb zs p'
set_option maxHeartbeats 8000000 in
theorem someNames_any (R B : Nat) (A : Option Addr) (cb : Nat) (zs : List Int) (p : Nat) (ds : List D) (Af : Option Addr) (nf cf base : Nat) (w : World) (h : Rdr w R B A cb zs p) (hp : p + 30 ≤ 100000)
    (ho : w.ownsRow base 82 2 (.slice Af nf cf) nf (flat ds)) (hok : ∀ d ∈ ds, d.small) (hRb : R < base) (hn : nf = ds.length) (hn13 : ds.length ≤ 25) :
    Calls Tryz.prog 62 #[.pointer (some ⟨R, 0, none⟩), .slice Af nf cf] w (NamesP R B A cb zs p w) := by
  subst hn
  have HR := Lib.hid h
  have HL := Lib.hid h.lt
  have HSM := Lib.hid hok
  have b1 : Below w.heap.size w (w.alloc (.cells #[] 9)) := (Below.refl _ _).alloc (Nat.le_refl _) _
  have HO1 : Hid ((w.alloc (.cells #[] 9)).ownsRow w.heap.size 9 1 (.slice (some ⟨w.heap.size, 0, none⟩) 0 0) 0 ([].map Value.string)) := Lib.hid (World.ownsRow_made w #[] 0 (Nat.le_refl _) (by unfold maxLen; omega) rfl)
  have HD1 := Lib.hid (own_below ho b1)
  have HR1 := Lib.hid (h.below b1)
  have HG1 : Hid (w.grownBy (w.alloc (.cells #[] 9)) (some R)) := Lib.hid (grown_of_below b1 _)
  clear h ho hok b1
  go_enter Tryz.func62, Tryz.ntmps62
  go_wp2_with fail
  refine (pick_any 4 R B A cb zs p _ HR1.out (by omega) (by omega) (by omega)).mono ?_
  rintro e w1 ⟨q, rfl, qa, qb, hg, hr⟩
  have qc := qb (by omega)
  obtain ⟨m0, rfl⟩ := Int.eq_ofNat_of_zero_le qa
  have HO2 := Lib.hid (HO1.out.kept hg (own_neR HO1.out HL.out))
  have HD2 := Lib.hid (HD1.out.kept hg (own_neR HD1.out hRb))
  have HG2 : Hid (w.grownBy w1 (some R)) := Lib.hid (HG1.out.trans hg)
  have HR2 := Lib.hid hr
  clear hg hr qb HO1 HD1 HG1 HR1
  go_wp2_with fail
  go_loopw [5, 6] (fun v i wr => ∃ (ss : List ByteArray) (m p' : Nat), i = .int .i64 m ∧ ss.length + m ≤ 3 ∧ p' + 4 * m ≤ p + 1 + 12 ∧ Hid (∀ s ∈ ss, s.size ≤ 100) ∧ Hid (wr.ownsRow w.heap.size 9 1 v ss.length (ss.map .string)) ∧ Hid (wr.ownsRow base 82 2 (.slice Af ds.length cf) ds.length (flat ds)) ∧ Hid (w.grownBy wr (some R)) ∧ Hid (Rdr wr R B A cb zs p')) (fun _ i _ => (intOf i).toNat)
  case atStart => exact ⟨[], m0, p + 1, rfl, by simp; omega, by omega, Lib.hid (by simp), HO2, HD2, HG2, HR2⟩
  case round =>
    obtain ⟨ss, m, p', rfl, hm, hp', hsz, hown, hdef, hgr, hrd⟩ := hrel
    clear HO2 HD2 HG2 HR2
    obtain ⟨A', c', rfl⟩ := own_form hown.out
    by_cases hm0 : m = 0
    · subst hm0
      go_wp2
      go_ret
      exact ⟨A', c', ss, p', rfl, by omega, hsz.out, hown.out, by omega, hgr.out, hrd.out⟩
    · obtain ⟨m, rfl⟩ : ∃ q, m = q + 1 := ⟨m - 1, by omega⟩
      clear hm0
      have HO3 := Lib.hid hown.out
      have HD3 := Lib.hid hdef.out
      have HG3 := Lib.hid hgr.out
      have HR3 := Lib.hid hrd.out
      clear hown hdef hgr hrd
      by_cases h0 : ds.length = 0
      · have h01 : ¬ (0 < (ds.length : Int)) := by omega
        clear h0
        go_wp2_with fail
        refine (anyName_any R B A cb zs (p') _ HR3.out (by omega)).mono ?_
        rintro e w7 ⟨s, p5, rfl, hs, hp5, hg, hr⟩
        have HO7 := Lib.hid (HO3.out.kept hg (own_neR HO3.out HL.out))
        have HD7 := Lib.hid (HD3.out.kept hg (own_neR HD3.out hRb))
        have HG7 : Hid (w.grownBy w7 (some R)) := Lib.hid (HG3.out.trans hg)
        have HR7 := Lib.hid hr
        clear hg hr HO3 HD3 HG3 HR3
        go_wp2_with (
          at_builtin
          refine wpList_app_Sk rfl _ _ rfl w.heap.size _ _ _ rfl HO7.out _ _ _ rfl (by first | rfl | simp) (by omega) HG7.out.size ?_
          intro v' w9 ho hg
          have HD9 := Lib.hid (HD7.out.kept hg (own_ne_type HD7.out HO7.out (by decide)))
          have HLT : Hid (∀ q, (Value.slice A' ss.length c').ownBlock = some q → w.heap.size ≤ q) := Lib.hid (fun q hq => (HO7.out.lt q hq).1)
          have HG9 := Lib.hid (grown_rowO HG7.out hg HLT.out)
          have HR9 := Lib.hid (HR7.out.grown hg (fun e => by have := HLT.out R e.symm; have := HL.out; omega) (fun q hq => by have := HLT.out q hq; have := HR7.out.low; have := HL.out; omega))
          have HO9 := Lib.hid ho
          clear ho hg)
        go_roundw
        case rel => exact ⟨ss ++ [s], m, p5, by go_num, by simp; omega, by omega, Lib.hid (by intro x hx; rcases List.mem_append.1 hx with hx | hx; exact hsz.out x hx; simp at hx; subst hx; exact hs), Lib.hid (by have := HO9.out; simpa using this), HD9, HG9, HR9⟩
        case measure => (simp [intOf]; try omega)
      · have h01 : (0 < (ds.length : Int)) := by omega
        go_wp2_with fail
        refine (pick_any 12 R B A cb zs p' _ HR3.out (by omega) (by omega) (by omega)).mono ?_
        rintro e w4 ⟨r, rfl, ra, rb, hg, hr⟩
        clear rb
        have HO4 := Lib.hid (HO3.out.kept hg (own_neR HO3.out HL.out))
        have HD4 := Lib.hid (HD3.out.kept hg (own_neR HD3.out hRb))
        have HG4 : Hid (w.grownBy w4 (some R)) := Lib.hid (HG3.out.trans hg)
        have HR4 := Lib.hid hr
        clear hg hr HO3 HD3 HG3 HR3
        by_cases h1 : 0 < r
        · skip
          go_wp2_with fail
          refine (pick_any ds.length R B A cb zs (p' + 1) _ HR4.out (by omega) (by omega) (by omega)).mono ?_
          rintro e w5 ⟨k, rfl, ka, kb, hg, hr⟩
          have kc := kb (by omega)
          obtain ⟨k, rfl⟩ := Int.eq_ofNat_of_zero_le ka
          have hk : k < ds.length := by omega
          clear kb
          have HO5 := Lib.hid (HO4.out.kept hg (own_neR HO4.out HL.out))
          have HD5 := Lib.hid (HD4.out.kept hg (own_neR HD4.out hRb))
          have HG5 : Hid (w.grownBy w5 (some R)) := Lib.hid (HG4.out.trans hg)
          have HR5 := Lib.hid hr
          clear hg hr HO4 HD4 HG4 HR4
          obtain ⟨g, rfl, hbg, hgl⟩ := own_addr HD5.out (by omega)
          have d1 : w5.cell? ⟨g, k * 2, none⟩ = some (.string ds[k].name) := by rw [HD5.out.cellAt (k * 2) (by omega)]; exact (flat_get ds k hk).1
          have HSK := Lib.hid (HSM.out _ (List.getElem_mem hk)).1
          generalize ds[k].name = nm at *
          go_wp2_with (
            at_builtin
            refine wpList_app_Sk rfl _ _ rfl w.heap.size _ _ _ rfl HO5.out _ _ _ rfl (by first | rfl | simp) (by omega) HG5.out.size ?_
            intro v' w9 ho hg
            have HD9 := Lib.hid (HD5.out.kept hg (own_ne_type HD5.out HO5.out (by decide)))
            have HLT : Hid (∀ q, (Value.slice A' ss.length c').ownBlock = some q → w.heap.size ≤ q) := Lib.hid (fun q hq => (HO5.out.lt q hq).1)
            have HG9 := Lib.hid (grown_rowO HG5.out hg HLT.out)
            have HR9 := Lib.hid (HR5.out.grown hg (fun e => by have := HLT.out R e.symm; have := HL.out; omega) (fun q hq => by have := HLT.out q hq; have := HR5.out.low; have := HL.out; omega))
            have HO9 := Lib.hid ho
            clear ho hg)
          go_roundw
          case rel => exact ⟨ss ++ [nm], m, p' + 1 + 1, by go_num, by simp; omega, by omega, Lib.hid (by intro x hx; rcases List.mem_append.1 hx with hx | hx; exact hsz.out x hx; simp at hx; subst hx; exact HSK.out), Lib.hid (by have := HO9.out; simpa using this), HD9, HG9, HR9⟩
          case measure => (simp [intOf]; try omega)
        go_wp2_with fail
        refine (anyName_any R B A cb zs (p' + 1) _ HR4.out (by omega)).mono ?_
        rintro e w7 ⟨s, p5, rfl, hs, hp5, hg, hr⟩
        have HO7 := Lib.hid (HO4.out.kept hg (own_neR HO4.out HL.out))
        have HD7 := Lib.hid (HD4.out.kept hg (own_neR HD4.out hRb))
        have HG7 : Hid (w.grownBy w7 (some R)) := Lib.hid (HG4.out.trans hg)
        have HR7 := Lib.hid hr
        clear hg hr HO4 HD4 HG4 HR4
        go_wp2_with (
          at_builtin
          refine wpList_app_Sk rfl _ _ rfl w.heap.size _ _ _ rfl HO7.out _ _ _ rfl (by first | rfl | simp) (by omega) HG7.out.size ?_
          intro v' w9 ho hg
          have HD9 := Lib.hid (HD7.out.kept hg (own_ne_type HD7.out HO7.out (by decide)))
          have HLT : Hid (∀ q, (Value.slice A' ss.length c').ownBlock = some q → w.heap.size ≤ q) := Lib.hid (fun q hq => (HO7.out.lt q hq).1)
          have HG9 := Lib.hid (grown_rowO HG7.out hg HLT.out)
          have HR9 := Lib.hid (HR7.out.grown hg (fun e => by have := HLT.out R e.symm; have := HL.out; omega) (fun q hq => by have := HLT.out q hq; have := HR7.out.low; have := HL.out; omega))
          have HO9 := Lib.hid ho
          clear ho hg)
        go_roundw
        case rel => exact ⟨ss ++ [s], m, p5, by go_num, by simp; omega, by omega, Lib.hid (by intro x hx; rcases List.mem_append.1 hx with hx | hx; exact hsz.out x hx; simp at hx; subst hx; exact hs), Lib.hid (by have := HO9.out; simpa using this), HD9, HG9, HR9⟩
        case measure => (simp [intOf]; try omega)
end Go.Proofs.YtboehlffbibgmaaGreatDoor
