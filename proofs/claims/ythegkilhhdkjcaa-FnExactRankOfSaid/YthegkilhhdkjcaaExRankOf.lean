/-
For every enumeration and every text the law on exact answers of RankOf returns true: the program's RankOf answers as its model does, and leaves its arguments as they were.
Conditions: none.
-/
import Derived.Test.YthegkilhhdkjcaaOpen
import Derived.Test.YthegkilhhdkjcaaRank
namespace Go.Proofs.Ythegkilhhdkjcaa.fnExactRankOf
open Go.ChangeShapes Go.WideShapes Go.ChangeAt Go.RowKit
open Go.ChangeMaps (open_string shut_string)
set_option linter.unusedVariables false

set_option maxHeartbeats 1000000 in
theorem walkV (A : Option Addr) (n c : Nat) (ds : List D) (s : ByteArray) (r : Int) (w : World) (hr : SD w w.heap.size A n c ds)
    (SPC : Hid (∀ (A : Option Addr) (n c : Nat) (w : World), SD w w.heap.size A n c ds → Calls Try.prog 27 #[.agg #[.slice A n c], .string s] w fun e w' => e = .returned (.int .i64 r) ∧ Below w.heap.size w w'))
    (IMC : Hid (∀ (A : Option Addr) (n c : Nat) (w : World), SD w w.heap.size A n c ds → Calls Try.prog 28 #[.agg #[.slice A n c], .string s] w fun e w' => e = .returned (.int .i64 r) ∧ Below w.heap.size w w')) :
    Calls Try.prog 8 #[.agg #[.slice A n c], .string s] w fun e w' => e = .returned (.bool true) ∧ Below w.heap.size w w' := by
  by_cases hbig : 1048576 < (s.size : Int)
  · go_enter Try.func8, Try.ntmps8
    go_wp2
    go_ret
    exact ⟨rfl, (Below.refl _ _).alloc (Nat.le_refl _) _⟩
  have HR := Lib.hid hr
  clear hr
  go_enter Try.func8, Try.ntmps8
  go_wp2_with fail
  have b0 : Below w.heap.size w (w.alloc (.cells #[.slice A n c] 25)) := (Below.refl _ _).alloc (Nat.le_refl _) _
  have HB0 := Lib.hid b0
  clear b0
  refine (szEnum_any ds A c n 1048576 _ ((HR.out.below HB0.out).call HB0.out.size) (by omega) (by omega)).mono ?_
  rintro e w1 ⟨r1, rfl, q0, q1, q2, hb⟩
  have HQ := Lib.hid q2
  have c1 : w1.cell? ⟨w.heap.size, 0, none⟩ = some (.slice A n c) := keep1 hb (by simp [go_sem])
  have HB1 : Hid (Below w.heap.size w w1) := Lib.hid (HB0.out.trans (hb.mono HB0.out.size))
  have hz1 : w.heap.size + 1 ≤ w1.heap.size := by have := hb.size; simpa using this
  clear hb q2 HB0
  by_cases hneg : r1 < 0
  · go_wp2
    go_ret
    exact ⟨rfl, HB1.out⟩
  have HN : Hid (n ≤ 1048576) := Lib.hid (by have := HQ.out (by omega); omega)
  clear HQ
  go_wp2_with fail
  refine (toEnum_any ds A c n _ ((HR.out.below HB1.out).call HB1.out.size) HN.out).mono ?_
  rintro e w2 ⟨g2, rfl, ho, hb⟩
  have c2 := keep1 hb c1
  have HB2 : Hid (Below w.heap.size w w2) := Lib.hid (HB1.out.trans (hb.mono HB1.out.size))
  have hz2 : w.heap.size + 1 ≤ w2.heap.size := Nat.le_trans hz1 hb.size
  have HS2 := Lib.hid (sd_of_own ho HR.out.ok)
  clear hb ho c1 HB1 hz1
  go_wp2_with fail
  refine (SPC.out _ _ _ _ HS2.out).mono ?_
  rintro e w3 ⟨rfl, hb⟩
  have c3 := keep1 hb c2
  have HB3 : Hid (Below w.heap.size w w3) := Lib.hid (HB2.out.trans (hb.mono HB2.out.size))
  have hz3 : w.heap.size + 1 ≤ w3.heap.size := Nat.le_trans hz2 hb.size
  clear hb c2 HB2 hz2 HS2
  go_wp2_with fail
  refine (toEnum_any ds A c n _ ((HR.out.below HB3.out).call HB3.out.size) HN.out).mono ?_
  rintro e w4 ⟨g4, rfl, ho, hb⟩
  have c4 := keep1 hb c3
  have HB4 : Hid (Below w.heap.size w w4) := Lib.hid (HB3.out.trans (hb.mono HB3.out.size))
  have hz4 : w.heap.size + 1 ≤ w4.heap.size := Nat.le_trans hz3 hb.size
  have HO4 := Lib.hid ho
  clear hb ho c3 HB3 hz3
  go_wp2_with fail
  have b5 : Below w4.heap.size w4 (w4.alloc (.cells #[.slice (some ⟨g4, 0, none⟩) n n] 30)) := (Below.refl _ _).alloc (Nat.le_refl _) _
  have c5 := keep1 b5 c4
  have d5 : (w4.alloc (.cells #[.slice (some ⟨g4, 0, none⟩) n n] 30)).cell? ⟨w4.heap.size, 0, none⟩ = some (.slice (some ⟨g4, 0, none⟩) n n) := by simp [go_sem]
  have HO5 := Lib.hid (own_below HO4.out b5)
  have HB5 : Hid (Below w.heap.size w (w4.alloc (.cells #[.slice (some ⟨g4, 0, none⟩) n n] 30))) := Lib.hid (HB4.out.trans (b5.mono HB4.out.size))
  refine (IMC.out _ _ _ _ (sd_of_own HO5.out HR.out.ok)).mono ?_
  rintro e w6 ⟨rfl, hb⟩
  have c6 := keep1 hb c5
  have d6 := keep1 hb d5
  have HO6 := Lib.hid (own_below HO5.out hb)
  have HB6 : Hid (Below w.heap.size w w6) := Lib.hid (HB5.out.trans (hb.mono HB5.out.size))
  have hz6 : w.heap.size + 1 ≤ w4.heap.size ∧ w4.heap.size + 1 ≤ w6.heap.size := ⟨hz4, by have := hb.size; simpa using this⟩
  have HS6 : Hid (SD w6 w6.heap.size A n c ds) := Lib.hid ((HR.out.below HB6.out).call HB6.out.size)
  clear hb b5 c5 d5 HO5 HB5 c4 HO4 HB4 hz4
  go_wp2_with fail
  generalize w4.heap.size = G at d6 hz6 ⊢
  go_region_held3 (fun w' => w'.cell? ⟨w.heap.size, 0, none⟩ = some (.slice A n c) ∧ w'.cell? ⟨G, 0, none⟩ = some (.slice (some ⟨g4, 0, none⟩) n n))
    (first
      | go_keep
      | exact ⟨c7, d7⟩ | exact ⟨c8, d8⟩)
    (first
      | (go_at_call 18; refine (toEnum_any ds A c n _ (by first | exact HS6.out | exact HS6.out.drew | exact HS6.out.drewN _) HN.out).mono ?_; rintro e w7 ⟨g7, rfl, ho7, hb7⟩; replace hb7 : Below w6.heap.size w6 w7 := (by first | exact hb7 | exact undrew hb7); have c7 := keep1 hb7 c6; have d7 := keep1 hb7 d6)
      | (go_at_call 20; refine (eqEnum_any ds _ _ _ _ _ _ _ (by first | exact sd_of_own (own_below HO6.out hb7) HR.out.ok | exact (sd_of_own (own_below HO6.out hb7) HR.out.ok).drew) (by first | exact sd_of_own ho7 HR.out.ok | exact (sd_of_own ho7 HR.out.ok).drew)).mono ?_; rintro e w8 ⟨rfl, hb8⟩; replace hb8 : Below w7.heap.size w7 w8 := (by first | exact hb8 | exact undrew hb8); have c8 := keep1 hb8 c7; have d8 := keep1 hb8 d7))
  go_wp2
  go_ret
  exact ⟨rfl, HB6.out.trans ((hb7.trans (hb8.mono hb7.size)).mono HB6.out.size)⟩

set_option maxHeartbeats 400000 in
theorem walk (A : Option Addr) (n c : Nat) (ds : List D) (s : ByteArray) (w : World) (hr : SD w w.heap.size A n c ds) (hs : s.size ≤ maxLen) :
    Calls Try.prog 8 #[.agg #[.slice A n c], .string s] w fun e w' => e = .returned (.bool true) ∧ Below w.heap.size w w' := by
  cases hv : vEnum ds
  · exact walkV A n c ds s (-1) w hr (Lib.hid fun A n c w h => specRankOf_no ds s A c n w h hv rfl (.inl rfl)) (Lib.hid fun A n c w h => implRankOf_no ds s A c n w h hv rfl (.inl rfl))
  · rcases fidx_cases (isNm s) ds with ⟨hx, _⟩ | ⟨k, hk, hx, _, _⟩
    · exact walkV A n c ds s (-1) w hr (Lib.hid fun A n c w h => specRankOf_no ds s A c n w h hv hx (.inr (by omega))) (Lib.hid fun A n c w h => implRankOf_no ds s A c n w h hv hx (.inr (by omega)))
    · exact walkV A n c ds s (fidx (isVal ds[k].val) (mems ds)) w hr (Lib.hid fun A n c w h => specRankOf_yes ds s A c n w h hv k hk hx) (Lib.hid fun A n c w h => implRankOf_yes ds s A c n w h hv k hk hx)

set_option maxRecDepth 100000 in
theorem lifted (os : Os) (started : os.Started) (H : Type) (enc : TypeId × Value → H) :
    ReturnsInHanded {} Try.checked os 8 .any (Rows.fnExactRankOfSpec.pre6 enc Try.prog Try.f8 Rows.fnExactRankOfRow.domain false) (Rows.fnExactRankOfSpec.post enc Try.prog Try.f8 false true false false) := by
  refine returnsInHanded_of_change (C := Try.checked) own started (by kernel_rfl) Try.func8
    (ChangeSpec.witness6 (enc := enc) (C := Try.checked) false ⟨#[], #[.agg #[.slice none 0 0], .string ByteArray.empty], []⟩ 8 (by kernel_rfl) (by kernel_rfl) (by kernel_rfl) (by kernel_rfl)) ?_
  intro W base args ds gs before hval0 hW hcnd _
  have hval : ∀ (j : Nat) t v, Try.f8.params[j]? = some t → args[j]? = some v → Value.okWide Try.prog W .any base t v := hval0
  have hW' := hW
  obtain ⟨p, q, hA0, hV, rfl, hfz, hnd⟩ := hW
  have hA : DataW.TrodAll enc Try.prog W 0 (fun _ => true) true Try.f8.params.toList args.toList ds p := hA0
  rw [Try.params8] at hA hval
  obtain ⟨v0, vs0, d0, ds0, p0, q0, hargs, rfl, rfl, h0, r0⟩ := trodAll_cons hA
  obtain ⟨v1, vs1, d1, ds1, p1, q1, rfl, rfl, rfl, h1, r1⟩ := trodAll_cons r0
  obtain ⟨rfl, rfl, rfl⟩ := trodAll_nil r1
  obtain rfl : args = #[v0, v1] := by cases args; simp_all
  obtain ⟨rfl, rfl⟩ := trodVars_none hV
  have k0 := h0
  have lt0 : ∀ x ∈ p0, x.block < W.heap.size := by obtain ⟨m, hm⟩ := k0; exact DataW.trod_lt m _ _ _ hm
  obtain ⟨A0, n0, c0, l0, rfl, w0⟩ := open_enum (hval 0 25 v0 rfl rfl) h0
  obtain ⟨a1, rfl, rfl, rfl, w1⟩ := open_string Try.underlying9 (hval 1 9 v1 rfl rfl) h1
  clear hA0 hval0
  refine (walk A0 n0 c0 l0 a1 W w0 w1).mono fun e W' ⟨he, bel⟩ => ?_
  subst he
  exact ⟨_, rfl, _, _, _, [], _, [], hW', trodAll_mk1 (shut_bool Try.underlying4 _), (trodAll_cons_mk (Below.trod laidOut (by kernel_rfl) (of_decide_eq_true (by kernel_rfl)) k0 bel lt0) (trodAll_cons_mk (shut_string Try.underlying9 w1) trodAll_mk0)), rfl, bel.frame _, fun h => by cases h⟩

theorem over : Rows.fnExactRankOfRow.holds Try.pinned (OpenSpec.ofChange Rows.fnExactRankOfSpec) :=
  OpenClaim.holds_of_wide 8 Try.f8 rfl rfl rfl rfl rfl rfl rfl ⟨rfl, rfl, rfl, rfl, rfl⟩ rfl rfl rfl rfl rfl (by kernel_rfl) Try.func8 (by kernel_rfl)
    (of_decide_eq_true (by kernel_rfl)) (by unfold Func.isWrapper; first | (rw [if_pos (by decide +kernel)]; kernel_rfl) | (rw [if_neg (by decide +kernel)]; exact ⟨rfl, rfl⟩))
    (fun os started H enc _ => lifted os started H enc)

theorem proved : Rows.FnExactRankOfSaid := over
end Go.Proofs.Ythegkilhhdkjcaa.fnExactRankOf
