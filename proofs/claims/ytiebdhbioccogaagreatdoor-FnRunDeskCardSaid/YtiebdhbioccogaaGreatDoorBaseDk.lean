import Derived.Test.YtiebdhbioccogaaGreatDoorBaseL
import Derived.Test.YtiebdhbioccogaaGreatDoorDkT
import Derived.Test.YtiebdhbioccogaaGreatDoorBaseZ
import Derived.Test.YtiebdhbioccogaaGreatDoorBaseK
import Derived.Test.YtiebdhbioccogaaGreatDoorDkP
namespace Go.Proofs.YtiebdhbioccogaaGreatDoor
open Go.RowKit
set_option linter.unusedVariables false
set_option linter.unusedSimpArgs false
set_option maxRecDepth 100000

theorem pf_small (s : ByteArray) : ∀ d ∈ mPF s, d.small := by
  intro d hd
  cases h : okPF s with
  | true =>
    obtain ⟨a, b, c⟩ := flag_small (pf_flagS h) d hd
    exact ⟨by omega, b, c⟩
  | false =>
    exfalso
    unfold okPF at h
    unfold mPF at hd
    split at h
    · rename_i hd2 ts he
      rw [he] at hd
      simp only at hd
      rw [(mBldF_no h).1] at hd
      cases hd
    · rename_i he
      rw [he] at hd
      cases hd
theorem lz_0 : (⟨#[115, 104, 111, 119, 32]⟩ : ByteArray).size = 5 := rfl
theorem lz_1 : (⟨#[115, 104, 111, 114, 116, 32]⟩ : ByteArray).size = 6 := rfl
theorem lz_2 : (⟨#[110, 111, 116, 32]⟩ : ByteArray).size = 4 := rfl
theorem lz_3 : (⟨#[111, 114, 32]⟩ : ByteArray).size = 3 := rfl
theorem lz_4 : (⟨#[97, 110, 100, 32]⟩ : ByteArray).size = 4 := rfl
theorem lz_5 : (⟨#[108, 101, 115, 115, 32]⟩ : ByteArray).size = 5 := rfl
theorem lz_6 : (⟨#[118, 97, 108, 117, 101, 32]⟩ : ByteArray).size = 6 := rfl
theorem lz_7 : (⟨#[32]⟩ : ByteArray).size = 1 := rfl
def allM (M : Nat) : List Value → Prop
  | [] => True
  | v :: r => (∃ s, v = .string s ∧ s.size ≤ M) ∧ allM M r
theorem allM_get {M : Nat} : ∀ {l : List Value}, allM M l → ∀ {i : Nat}, i < l.length → ∃ s, l[i]? = some (.string s) ∧ s.size ≤ M
  | [], _, i, hi => absurd hi (Nat.not_lt_zero _)
  | v :: r, h, 0, _ => by obtain ⟨⟨s, h1, h2⟩, _⟩ := h; exact ⟨s, by simp [h1], h2⟩
  | v :: r, h, i + 1, hi => by obtain ⟨s, h1, h2⟩ := allM_get h.2 (i := i) (by simpa using hi); exact ⟨s, by simpa using h1, h2⟩
theorem litM {W : World} {cs : Array Value} {t : TypeId} {n M : Nat} (hn : cs.size = n) (h : allM M cs.toList) : ∀ i, i < n → ∃ s : ByteArray, (W.alloc (.cells cs t)).cell? ⟨W.heap.size, i, none⟩ = some (.string s) ∧ s.size ≤ M := by
  subst hn
  intro i hi
  obtain ⟨s, h1, h2⟩ := allM_get h (i := i) (by simpa using hi)
  exact ⟨s, by rw [World.cell?_alloc_at _ _ _ _ rfl]; simpa using h1, h2⟩
def OfM (M R B : Nat) (A : Option Addr) (cb : Nat) (zs : List Int) (p : Nat) (w : World) (e : Ending) (w' : World) : Prop :=
  ∃ s : ByteArray, e = .returned (.string s) ∧ s.size ≤ M ∧ w.grownBy w' (some R) ∧ Rdr w' R B A cb zs p
set_option maxHeartbeats 1000000 in
theorem ofM_any (M R B : Nat) (A : Option Addr) (cb : Nat) (zs : List Int) (p g n c : Nat) (w : World) (h : Rdr w R B A cb zs p) (hp : p + 1 ≤ 100000) (hg : g ≠ R) (hn : 0 < n) (hn2 : n ≤ 1000)
    (hl : ∀ i, i < n → ∃ s : ByteArray, w.cell? ⟨g, i, none⟩ = some (.string s) ∧ s.size ≤ M) :
    Calls Tryz.prog 24 #[.pointer (some ⟨R, 0, none⟩), .slice (some ⟨g, 0, none⟩) n c] w (OfM M R B A cb zs (p + 1) w) := by
  have HR := Lib.hid h
  have HL := Lib.hid hl
  clear h hl
  go_enter Tryz.func24, Tryz.ntmps24
  go_wp2_with fail
  refine (pick_any n R B A cb zs p _ HR.out hp (by omega) (by omega)).mono ?_
  rintro e w1 ⟨r, rfl, h0, h1, hgr, hr⟩
  have h2 := h1 (by omega)
  obtain ⟨k, rfl⟩ := Int.eq_ofNat_of_zero_le h0
  obtain ⟨s, hs, hsz⟩ := HL.out k (by omega)
  have hs1 := hgr.cell hs (fun e => hg (by injection e))
  have HG := Lib.hid hgr
  have HR1 := Lib.hid hr
  have hk : (k : Int) < (n : Int) := by omega
  clear hgr hr h1 hs
  go_wp2
  go_ret
  exact ⟨s, rfl, hsz, HG.out, HR1.out⟩
theorem defs_kept {w w' : World} {b1 b2 F : Nat} {t1 t2 : TypeId} {z1 z2 n1 n2 : Nat} {u v : Value} {xs ys : List Value} (h : w.ownsRow b1 t1 z1 u n1 xs) (ho : w.ownsRow b2 t2 z2 v n2 ys) (hu : ∀ q, u.ownBlock = some q → q < F) (hF : F ≤ b2) (hg : w.grownBy w' v.ownBlock) : w'.ownsRow b1 t1 z1 u n1 xs :=
  h.kept hg (by
    cases hb : u.ownBlock with
    | none => exact .inl rfl
    | some k => exact .inr (fun e => by have := hu k hb; have := (ho.lt k e.symm).1; omega))
/-- A drawn text and drawn lines. -/
def DrawDk (w : World) (e : Ending) (w' : World) : Prop :=
  ∃ (s : ByteArray) (A : Option Addr) (c : Nat) (ls : List ByteArray), e = .returned (.tuple #[.string s, .slice A ls.length c]) ∧ s.size ≤ 3100 ∧ ls.length ≤ 6 ∧ (∀ x ∈ ls, x.size ≤ 5000) ∧ SS w' w'.heap.size A ls.length c ls ∧ Below w.heap.size w w'
set_option maxHeartbeats 32000000 in
theorem drawRunDesk_any (A : Option Addr) (n c : Nat) (zs : List Int) (w : World) (h : SB w w.heap.size A n c zs) :
    Calls Tryz.prog 10 #[.slice A n c] w (DrawDk w) := by
  have HS := Lib.hid h
  clear h
  go_enter Tryz.func10, Tryz.ntmps10
  go_wp2_with fail
  refine (newReader_any A n c zs _ HS.out).mono ?_
  rintro e w1 ⟨R, A1, cb, z1, rfl, hR, hr, hb⟩
  have HB1 := Lib.hid hb
  have HR1 := Lib.hid hr
  clear hr hb
  go_wp2_with fail
  refine (flagText_any R _ A1 cb z1 0 _ HR1.out (by omega)).mono ?_
  rintro e w3 ⟨s3, p3, rfl, hz3s, hp3, hg, hr⟩
  have HB3 : Hid (Below w.heap.size w w3) := Lib.hid (HB1.out.grown hg HB1.out.size (fun k hk => by cases hk; exact hR))
  have HR3 := Lib.hid hr
  clear hr hg HR1 HB1
  go_wp2_with fail
  refine (specPF_v s3 _ (by omega)).mono ?_
  rintro e w4 ⟨Af, cf, rfl, ho, hb⟩
  have hRb := HR3.out.lt
  have hz34 : w3.heap.size ≤ w4.heap.size := hb.size
  have hlen := (mPF_dok s3).2
  have HSM := Lib.hid (pf_small s3)
  have HO4 := Lib.hid ho
  have HR4 := Lib.hid (HR3.out.below hb)
  have HB4 : Hid (Below w.heap.size w w4) := Lib.hid (HB3.out.trans (hb.mono HB3.out.size))
  clear ho hb HR3 HB3
  generalize mPF s3 = ds at *
  generalize bPF s3 = b at *
  generalize okPF s3 = okf at *
  generalize hBase : w3.heap.size = base at *
  clear hBase
  obtain ⟨F, hF⟩ : ∃ F, w4.heap.size = F := ⟨_, rfl⟩
  have HDL : Hid (∀ q, (Value.slice Af ds.length cf).ownBlock = some q → q < F) := Lib.hid fun q hq => by have := (HO4.out.lt q hq).2; omega
  obtain ⟨w5, hw⟩ : ∃ W : World, W = w4.alloc (.cells #[.slice Af ds.length cf, .int .i64 b] 35) := ⟨_, rfl⟩
  have hb : Below w4.heap.size w4 w5 := by rw [hw]; exact (Below.refl _ _).alloc (Nat.le_refl _) _
  have HC5 : Hid (C2 w5 F (.slice Af ds.length cf) (.int .i64 b)) := Lib.hid (by rw [hw, ← hF]; exact c2New _ _ _ _)
  have hz5 : F + 1 ≤ w5.heap.size := by rw [hw]; simp [hF]
  have HO5 := Lib.hid (own_below HO4.out hb)
  have HR5 := Lib.hid (HR4.out.below hb)
  have HB5 : Hid (Below w.heap.size w w5) := Lib.hid (HB4.out.trans (hb.mono HB4.out.size))
  have HW := Lib.hid hw.symm
  have hRF : R < F := by omega
  have nFR : F ≠ R := by omega
  clear hw hb HO4 HR4 HB4
  go_wp2_with fail
  rw [HW.out]
  clear HW
  try rw [hF]
  clear hF
  refine (pick_any 8 R _ A1 cb z1 _ _ HR5.out (by omega) (by omega) (by omega)).mono ?_
  rintro e w6 ⟨m6, rfl, m6a, m6b, hg, hr⟩
  have HC6 := Lib.hid (HC5.out.grown hg (by simpa using nFR))
  have HO6 := Lib.hid (HO5.out.kept hg (own_neR HO5.out hRb))
  have HB6 : Hid (Below w.heap.size w w6) := Lib.hid (HB5.out.grown hg HB5.out.size (fun k hk => by cases hk; exact hR))
  have HR6 := Lib.hid hr
  have hz6 : F + 1 ≤ w6.heap.size := by have := hg.size; omega
  clear hg hr HC5 HO5 HB5 HR5 hz5 m6b
  by_cases hm6 : m6 = 0
  · subst hm6
    go_wp2_with fail
    refine (mutate_any R _ A1 cb z1 _ s3 _ HR6.out (by omega) (by omega)).mono ?_
    rintro e w7 ⟨s7, p7, rfl, hs7, hp7, hg, hr⟩
    have hs7z : s7.size ≤ 3100 := by omega
    have hp7z : p7 ≤ 300 := by omega
    have HC7 := Lib.hid (HC6.out.grown hg (by simpa using nFR))
    have HO7 := Lib.hid (HO6.out.kept hg (own_neR HO6.out hRb))
    have HB7 : Hid (Below w.heap.size w w7) := Lib.hid (HB6.out.grown hg HB6.out.size (fun k hk => by cases hk; exact hR))
    have HR7 := Lib.hid hr
    have hz7 : F + 1 ≤ w7.heap.size := by have := hg.size; omega
    clear hg hr HC6 HO6 HB6 HR6 hz6 hs7 hp7 hz3s hp3
    obtain ⟨G, hG⟩ : ∃ G, w7.heap.size = G := ⟨_, rfl⟩
    obtain ⟨w8, hw⟩ : ∃ W : World, W = w7.alloc (.cells #[] 9) := ⟨_, rfl⟩
    have hb : Below w7.heap.size w7 w8 := by rw [hw]; exact (Below.refl _ _).alloc (Nat.le_refl _) _
    have hz8 : w8.heap.size = G + 1 := by rw [hw]; simp [hG]
    have HT8 : Hid (w8.ownsRow G 9 1 (.slice (some ⟨G, 0, none⟩) 0 0) 0 (([] : List ByteArray).map .string)) := Lib.hid (by rw [hw, ← hG]; have := World.ownsRow_made (e := 9) (size := 1) w7 #[] 0 (Nat.le_refl _) (by unfold maxLen; omega) rfl; simpa using this)
    have HC8 := Lib.hid (HC7.out.below hb)
    have HO8 := Lib.hid (own_below HO7.out hb)
    have HR8 := Lib.hid (HR7.out.below hb)
    have HB8 : Hid (Below w.heap.size w w8) := Lib.hid (HB7.out.trans (hb.mono HB7.out.size))
    have HW := Lib.hid hw.symm
    have hFG : F + 1 ≤ G := by omega
    have hRG : R < G := by omega
    clear hw hb HC7 HO7 HR7 HB7 hz7
    go_wp2_with fail
    rw [HW.out]
    clear HW
    try rw [hG]
    clear hG
    rw [← hz8]
    refine (one_any 0 6 R _ A1 cb z1 p7 w8.heap.size 4 4 _ (HR8.out.below ((Below.refl _ _).alloc (Nat.le_refl _) _)) (by omega) (by omega) (by omega) (by omega) (litI rfl rfl (by simp [allI]))).mono ?_
    rintro e w9 ⟨n0, rfl, na, nb, hg0, hr⟩
    have hg := (World.grownBy_alloc w8 (.cells #[.int .i64 4, .int .i64 6, .int .i64 2, .int .i64 0] 3) (some R)).trans hg0
    clear hg0
    have HC9 := Lib.hid (HC8.out.grown hg (by simpa using nFR))
    have HO9 := Lib.hid (HO8.out.kept hg (own_neR HO8.out hRb))
    have HT9 := Lib.hid (HT8.out.kept hg (own_neR HT8.out hRG))
    have HB9 : Hid (Below w.heap.size w w9) := Lib.hid (HB8.out.grown hg HB8.out.size (fun k hk => by cases hk; exact hR))
    have HR9 := Lib.hid hr
    have hz9 : G + 1 ≤ w9.heap.size := by have := hg.size; omega
    clear hg hr HC8 HO8 HT8 HB8 HR8 hz8
    obtain ⟨n0, rfl⟩ := Int.eq_ofNat_of_zero_le na
    have hn6 : n0 ≤ 6 := by omega
    clear na nb
    go_wp2_with fail
    go_loopw [8, 9] (fun v i wr => ∃ (ls : List ByteArray) (n p' : Nat), i = .int .i64 n ∧ ls.length + n ≤ 6 ∧ p' ≤ 301 + 100 * ls.length ∧ G + 1 ≤ wr.heap.size ∧ Hid (∀ x ∈ ls, x.size ≤ 5000) ∧ Hid (C2 wr F (.slice Af ds.length cf) (.int .i64 b)) ∧ Hid (wr.ownsRow G 9 1 v ls.length (ls.map .string)) ∧ Hid (wr.ownsRow base 108 2 (.slice Af ds.length cf) ds.length (flat ds)) ∧ Hid (Below w.heap.size w wr) ∧ Hid (Rdr wr R w.heap.size A1 cb z1 p')) (fun _ i _ => (intOf i).toNat)
    case atStart => exact ⟨[], n0, p7 + 1, rfl, by simp; omega, by simp; omega, hz9, Lib.hid (by simp), HC9, HT9, HO9, HB9, HR9⟩
    case round =>
      clear HC9 HO9 HT9 HB9 HR9 hz9
      obtain ⟨ls, n, p', rfl, hrn, hp', hz10, HSZ, HC10, HT10, HO10, HB10, HR10⟩ := hrel
      obtain ⟨A', c', rfl⟩ := own_form HT10.out
      obtain ⟨w10, hwn⟩ : ∃ W : World, W = wr := ⟨_, rfl⟩
      subst hwn
      by_cases hn0 : 0 < n
      · obtain ⟨m, rfl⟩ : ∃ m, n = m + 1 := ⟨n - 1, by omega⟩
        have hn1 : 0 < ((m + 1 : Nat) : Int) := by omega
        have hw1 : IntKind.i64.wrap (((m + 1 : Nat) : Int) - 1) = (m : Int) := by rw [IntKind.wrap_i64]; omega
        obtain ⟨k0, k1, _, _⟩ := id HC10.out
        go_wp2_with fail
        refine (aText_any R _ A1 cb z1 p' ds b Af ds.length cf base _ HR10.out (by omega) HO10.out HSM.out hRb rfl (by omega)).mono ?_
        rintro e w11 ⟨ta, pa, rfl, hta, hpa, hg, hr⟩
        have HC11 := Lib.hid (HC10.out.grown hg (by simpa using nFR))
        have HO11 := Lib.hid (HO10.out.kept hg (own_neR HO10.out hRb))
        have HT11 := Lib.hid (HT10.out.kept hg (own_neR HT10.out hRG))
        have HB11 : Hid (Below w.heap.size w w11) := Lib.hid (HB10.out.grown hg HB10.out.size (fun k hk => by cases hk; exact hR))
        have HR11 := Lib.hid hr
        have hz11 : G + 1 ≤ w11.heap.size := by have := hg.size; omega
        clear hg hr HC10 HO10 HT10 HB10 HR10 hz10 k0 k1
        obtain ⟨k0, k1, _, _⟩ := id HC11.out
        go_wp2_with fail
        refine (aText_any R _ A1 cb z1 pa ds b Af ds.length cf base _ HR11.out (by omega) HO11.out HSM.out hRb rfl (by omega)).mono ?_
        rintro e w12 ⟨tb, pb, rfl, htb, hpb, hg, hr⟩
        have HC12 := Lib.hid (HC11.out.grown hg (by simpa using nFR))
        have HO12 := Lib.hid (HO11.out.kept hg (own_neR HO11.out hRb))
        have HT12 := Lib.hid (HT11.out.kept hg (own_neR HT11.out hRG))
        have HB12 : Hid (Below w.heap.size w w12) := Lib.hid (HB11.out.grown hg HB11.out.size (fun k hk => by cases hk; exact hR))
        have HR12 := Lib.hid hr
        have hz12 : G + 1 ≤ w12.heap.size := by have := hg.size; omega
        clear hg hr HC11 HO11 HT11 HB11 HR11 hz11 k0 k1
        obtain ⟨k0, k1, _, _⟩ := id HC12.out
        have hgs1 : ¬ 9223372036854775807 < 3 + ta.size := by omega
        have hgs2 : ¬ 9223372036854775807 < 4 + ta.size := by omega
        have hgs3 : ¬ 9223372036854775807 < 5 + ta.size := by omega
        have hgs4 : ¬ 9223372036854775807 < 6 + ta.size := by omega
        have hgs5 : ¬ 9223372036854775807 < 3 + ta.size + 1 := by omega
        have hgs6 : ¬ 9223372036854775807 < 3 + (ta.size + 1) := by omega
        have hgs7 : ¬ 9223372036854775807 < 4 + ta.size + 1 := by omega
        have hgs8 : ¬ 9223372036854775807 < 4 + (ta.size + 1) := by omega
        have hgs9 : ¬ 9223372036854775807 < 5 + ta.size + 1 := by omega
        have hgs10 : ¬ 9223372036854775807 < 5 + (ta.size + 1) := by omega
        have hgs11 : ¬ 9223372036854775807 < 3 + ta.size + 1 + tb.size := by omega
        have hgs12 : ¬ 9223372036854775807 < 3 + (ta.size + 1) + tb.size := by omega
        have hgs13 : ¬ 9223372036854775807 < 3 + (ta.size + (1 + tb.size)) := by omega
        have hgs14 : ¬ 9223372036854775807 < 3 + (ta.size + 1 + tb.size) := by omega
        have hgs15 : ¬ 9223372036854775807 < 4 + ta.size + 1 + tb.size := by omega
        have hgs16 : ¬ 9223372036854775807 < 4 + (ta.size + 1) + tb.size := by omega
        have hgs17 : ¬ 9223372036854775807 < 4 + (ta.size + (1 + tb.size)) := by omega
        have hgs18 : ¬ 9223372036854775807 < 4 + (ta.size + 1 + tb.size) := by omega
        have hgs19 : ¬ 9223372036854775807 < 5 + ta.size + 1 + tb.size := by omega
        have hgs20 : ¬ 9223372036854775807 < 5 + (ta.size + 1) + tb.size := by omega
        have hgs21 : ¬ 9223372036854775807 < 5 + (ta.size + (1 + tb.size)) := by omega
        have hgs22 : ¬ 9223372036854775807 < 5 + (ta.size + 1 + tb.size) := by omega
        go_wp2_with fail
        refine (ofM_any 5000 R _ A1 cb z1 pb w12.heap.size 15 15 _ (HR12.out.below ((Below.refl _ _).alloc (Nat.le_refl _) _)) (by omega) (by have := HR12.out.lt; omega) (by omega) (by omega) (litM rfl (by
          iterate 15 refine ⟨⟨_, rfl, (by first | decide | (simp only [ByteArray.size_append, lz_0, lz_1, lz_2, lz_3, lz_4, lz_5, lz_6, lz_7]; omega))⟩, ?_⟩
          exact trivial))).mono ?_
        rintro e w13 ⟨tc, rfl, htc, hg0, hr⟩
        have hg : w12.grownBy w13 (some R) := (World.grownBy_alloc _ _ _).trans hg0
        have HC13 := Lib.hid (HC12.out.grown hg (by simpa using nFR))
        have HO13 := Lib.hid (HO12.out.kept hg (own_neR HO12.out hRb))
        have HT13 := Lib.hid (HT12.out.kept hg (own_neR HT12.out hRG))
        have HB13 : Hid (Below w.heap.size w w13) := Lib.hid (HB12.out.grown hg HB12.out.size (fun k hk => by cases hk; exact hR))
        have HR13 := Lib.hid hr
        have hz13 : G + 1 ≤ w13.heap.size := by have := hg.size; omega
        clear hg hg0 hr HC12 HO12 HT12 HB12 HR12 hz12 k0 k1
        have hz13g : G ≤ w13.heap.size := by omega
        go_wp2_with (at_builtin; refine wpList_app_Sk rfl _ _ rfl G _ _ _ rfl HT13.out _ _ _ rfl rfl (by omega) hz13g ?_; intro v' w14 ho14 hg14; have HT14 := Lib.hid ho14; have HG14 := Lib.hid hg14; clear ho14 hg14)
        have HC14 := Lib.hid (HC13.out.grown HG14.out (by intro e; have := (HT13.out.lt _ e.symm).1; omega))
        have HO14 := Lib.hid (defs_kept HO13.out HT13.out HDL.out (by omega) HG14.out)
        have HB14 : Hid (Below w.heap.size w w14) := Lib.hid (HB13.out.grown HG14.out HB13.out.size (fun k hk => by have := (HT13.out.lt _ hk).1; omega))
        have HR14 := Lib.hid (HR13.out.grown HG14.out (by intro e; have := (HT13.out.lt _ e.symm).1; omega) (fun q e => by have := (HT13.out.lt _ e).1; have := HR13.out.low; omega))
        have hz14 : G + 1 ≤ w14.heap.size := by have := HG14.out.size; omega
        have HF14 : Hid (w14.ownsRow G 9 1 v' (ls ++ [tc]).length ((ls ++ [tc]).map .string)) := Lib.hid (by rw [List.map_append, List.length_append]; exact HT14.out)
        have HS14 : Hid (∀ x ∈ ls ++ [tc], x.size ≤ 5000) := Lib.hid (fun x hx => by rcases List.mem_append.1 hx with h | h; exact HSZ.out x h; rw [List.mem_singleton.1 h]; exact htc)
        have hl14 : (ls ++ [tc]).length = ls.length + 1 := by simp
        go_roundw
        case rel => exact ⟨ls ++ [tc], m, pb + 1, by go_num, by omega, by omega, hz14, HS14, HC14, HF14, HO14, HB14, HR14⟩
        case measure => simp [intOf]
      · obtain rfl : n = 0 := by omega
        have hn1 : ¬ (0 : Int) < 0 := by omega
        go_wp2
        go_ret2
        exact ⟨s7, A', c', ls, rfl, hs7z, by omega, HSZ.out, ss_of_own HT10.out (fun s hs => by have := HSZ.out s hs; unfold maxLen; omega), HB10.out⟩
  · have hm60 : (m6 == 0) = false := by rw [beq_eq_false_iff_ne]; exact hm6
    clear hm6
    obtain ⟨w7, e7⟩ : ∃ W : World, W = w6 := ⟨_, rfl⟩
    subst e7
    obtain ⟨s7, e7⟩ : ∃ W : ByteArray, W = s3 := ⟨_, rfl⟩
    subst e7
    obtain ⟨p7, e7⟩ : ∃ W : Nat, W = p3 + 1 := ⟨_, rfl⟩
    rw [← e7] at HR6
    have hs7z : s7.size ≤ 3100 := by omega
    have hp7z : p7 ≤ 300 := by omega
    clear e7 hz3s hp3
    have HC7 := HC6
    have HO7 := HO6
    have HB7 := HB6
    have HR7 := HR6
    have hz7 := hz6
    clear HC6 HO6 HB6 HR6 hz6
    obtain ⟨G, hG⟩ : ∃ G, w7.heap.size = G := ⟨_, rfl⟩
    obtain ⟨w8, hw⟩ : ∃ W : World, W = w7.alloc (.cells #[] 9) := ⟨_, rfl⟩
    have hb : Below w7.heap.size w7 w8 := by rw [hw]; exact (Below.refl _ _).alloc (Nat.le_refl _) _
    have hz8 : w8.heap.size = G + 1 := by rw [hw]; simp [hG]
    have HT8 : Hid (w8.ownsRow G 9 1 (.slice (some ⟨G, 0, none⟩) 0 0) 0 (([] : List ByteArray).map .string)) := Lib.hid (by rw [hw, ← hG]; have := World.ownsRow_made (e := 9) (size := 1) w7 #[] 0 (Nat.le_refl _) (by unfold maxLen; omega) rfl; simpa using this)
    have HC8 := Lib.hid (HC7.out.below hb)
    have HO8 := Lib.hid (own_below HO7.out hb)
    have HR8 := Lib.hid (HR7.out.below hb)
    have HB8 : Hid (Below w.heap.size w w8) := Lib.hid (HB7.out.trans (hb.mono HB7.out.size))
    have HW := Lib.hid hw.symm
    have hFG : F + 1 ≤ G := by omega
    have hRG : R < G := by omega
    clear hw hb HC7 HO7 HR7 HB7 hz7
    go_wp2_with fail
    rw [HW.out]
    clear HW
    try rw [hG]
    clear hG
    rw [← hz8]
    refine (one_any 0 6 R _ A1 cb z1 p7 w8.heap.size 4 4 _ (HR8.out.below ((Below.refl _ _).alloc (Nat.le_refl _) _)) (by omega) (by omega) (by omega) (by omega) (litI rfl rfl (by simp [allI]))).mono ?_
    rintro e w9 ⟨n0, rfl, na, nb, hg0, hr⟩
    have hg := (World.grownBy_alloc w8 (.cells #[.int .i64 4, .int .i64 6, .int .i64 2, .int .i64 0] 3) (some R)).trans hg0
    clear hg0
    have HC9 := Lib.hid (HC8.out.grown hg (by simpa using nFR))
    have HO9 := Lib.hid (HO8.out.kept hg (own_neR HO8.out hRb))
    have HT9 := Lib.hid (HT8.out.kept hg (own_neR HT8.out hRG))
    have HB9 : Hid (Below w.heap.size w w9) := Lib.hid (HB8.out.grown hg HB8.out.size (fun k hk => by cases hk; exact hR))
    have HR9 := Lib.hid hr
    have hz9 : G + 1 ≤ w9.heap.size := by have := hg.size; omega
    clear hg hr HC8 HO8 HT8 HB8 HR8 hz8
    obtain ⟨n0, rfl⟩ := Int.eq_ofNat_of_zero_le na
    have hn6 : n0 ≤ 6 := by omega
    clear na nb
    go_wp2_with fail
    go_loopw [8, 9] (fun v i wr => ∃ (ls : List ByteArray) (n p' : Nat), i = .int .i64 n ∧ ls.length + n ≤ 6 ∧ p' ≤ 301 + 100 * ls.length ∧ G + 1 ≤ wr.heap.size ∧ Hid (∀ x ∈ ls, x.size ≤ 5000) ∧ Hid (C2 wr F (.slice Af ds.length cf) (.int .i64 b)) ∧ Hid (wr.ownsRow G 9 1 v ls.length (ls.map .string)) ∧ Hid (wr.ownsRow base 108 2 (.slice Af ds.length cf) ds.length (flat ds)) ∧ Hid (Below w.heap.size w wr) ∧ Hid (Rdr wr R w.heap.size A1 cb z1 p')) (fun _ i _ => (intOf i).toNat)
    case atStart => exact ⟨[], n0, p7 + 1, rfl, by simp; omega, by simp; omega, hz9, Lib.hid (by simp), HC9, HT9, HO9, HB9, HR9⟩
    case round =>
      clear HC9 HO9 HT9 HB9 HR9 hz9
      obtain ⟨ls, n, p', rfl, hrn, hp', hz10, HSZ, HC10, HT10, HO10, HB10, HR10⟩ := hrel
      obtain ⟨A', c', rfl⟩ := own_form HT10.out
      obtain ⟨w10, hwn⟩ : ∃ W : World, W = wr := ⟨_, rfl⟩
      subst hwn
      by_cases hn0 : 0 < n
      · obtain ⟨m, rfl⟩ : ∃ m, n = m + 1 := ⟨n - 1, by omega⟩
        have hn1 : 0 < ((m + 1 : Nat) : Int) := by omega
        have hw1 : IntKind.i64.wrap (((m + 1 : Nat) : Int) - 1) = (m : Int) := by rw [IntKind.wrap_i64]; omega
        obtain ⟨k0, k1, _, _⟩ := id HC10.out
        go_wp2_with fail
        refine (aText_any R _ A1 cb z1 p' ds b Af ds.length cf base _ HR10.out (by omega) HO10.out HSM.out hRb rfl (by omega)).mono ?_
        rintro e w11 ⟨ta, pa, rfl, hta, hpa, hg, hr⟩
        have HC11 := Lib.hid (HC10.out.grown hg (by simpa using nFR))
        have HO11 := Lib.hid (HO10.out.kept hg (own_neR HO10.out hRb))
        have HT11 := Lib.hid (HT10.out.kept hg (own_neR HT10.out hRG))
        have HB11 : Hid (Below w.heap.size w w11) := Lib.hid (HB10.out.grown hg HB10.out.size (fun k hk => by cases hk; exact hR))
        have HR11 := Lib.hid hr
        have hz11 : G + 1 ≤ w11.heap.size := by have := hg.size; omega
        clear hg hr HC10 HO10 HT10 HB10 HR10 hz10 k0 k1
        obtain ⟨k0, k1, _, _⟩ := id HC11.out
        go_wp2_with fail
        refine (aText_any R _ A1 cb z1 pa ds b Af ds.length cf base _ HR11.out (by omega) HO11.out HSM.out hRb rfl (by omega)).mono ?_
        rintro e w12 ⟨tb, pb, rfl, htb, hpb, hg, hr⟩
        have HC12 := Lib.hid (HC11.out.grown hg (by simpa using nFR))
        have HO12 := Lib.hid (HO11.out.kept hg (own_neR HO11.out hRb))
        have HT12 := Lib.hid (HT11.out.kept hg (own_neR HT11.out hRG))
        have HB12 : Hid (Below w.heap.size w w12) := Lib.hid (HB11.out.grown hg HB11.out.size (fun k hk => by cases hk; exact hR))
        have HR12 := Lib.hid hr
        have hz12 : G + 1 ≤ w12.heap.size := by have := hg.size; omega
        clear hg hr HC11 HO11 HT11 HB11 HR11 hz11 k0 k1
        obtain ⟨k0, k1, _, _⟩ := id HC12.out
        have hgs1 : ¬ 9223372036854775807 < 3 + ta.size := by omega
        have hgs2 : ¬ 9223372036854775807 < 4 + ta.size := by omega
        have hgs3 : ¬ 9223372036854775807 < 5 + ta.size := by omega
        have hgs4 : ¬ 9223372036854775807 < 6 + ta.size := by omega
        have hgs5 : ¬ 9223372036854775807 < 3 + ta.size + 1 := by omega
        have hgs6 : ¬ 9223372036854775807 < 3 + (ta.size + 1) := by omega
        have hgs7 : ¬ 9223372036854775807 < 4 + ta.size + 1 := by omega
        have hgs8 : ¬ 9223372036854775807 < 4 + (ta.size + 1) := by omega
        have hgs9 : ¬ 9223372036854775807 < 5 + ta.size + 1 := by omega
        have hgs10 : ¬ 9223372036854775807 < 5 + (ta.size + 1) := by omega
        have hgs11 : ¬ 9223372036854775807 < 3 + ta.size + 1 + tb.size := by omega
        have hgs12 : ¬ 9223372036854775807 < 3 + (ta.size + 1) + tb.size := by omega
        have hgs13 : ¬ 9223372036854775807 < 3 + (ta.size + (1 + tb.size)) := by omega
        have hgs14 : ¬ 9223372036854775807 < 3 + (ta.size + 1 + tb.size) := by omega
        have hgs15 : ¬ 9223372036854775807 < 4 + ta.size + 1 + tb.size := by omega
        have hgs16 : ¬ 9223372036854775807 < 4 + (ta.size + 1) + tb.size := by omega
        have hgs17 : ¬ 9223372036854775807 < 4 + (ta.size + (1 + tb.size)) := by omega
        have hgs18 : ¬ 9223372036854775807 < 4 + (ta.size + 1 + tb.size) := by omega
        have hgs19 : ¬ 9223372036854775807 < 5 + ta.size + 1 + tb.size := by omega
        have hgs20 : ¬ 9223372036854775807 < 5 + (ta.size + 1) + tb.size := by omega
        have hgs21 : ¬ 9223372036854775807 < 5 + (ta.size + (1 + tb.size)) := by omega
        have hgs22 : ¬ 9223372036854775807 < 5 + (ta.size + 1 + tb.size) := by omega
        go_wp2_with fail
        refine (ofM_any 5000 R _ A1 cb z1 pb w12.heap.size 15 15 _ (HR12.out.below ((Below.refl _ _).alloc (Nat.le_refl _) _)) (by omega) (by have := HR12.out.lt; omega) (by omega) (by omega) (litM rfl (by
          iterate 15 refine ⟨⟨_, rfl, (by first | decide | (simp only [ByteArray.size_append, lz_0, lz_1, lz_2, lz_3, lz_4, lz_5, lz_6, lz_7]; omega))⟩, ?_⟩
          exact trivial))).mono ?_
        rintro e w13 ⟨tc, rfl, htc, hg0, hr⟩
        have hg : w12.grownBy w13 (some R) := (World.grownBy_alloc _ _ _).trans hg0
        have HC13 := Lib.hid (HC12.out.grown hg (by simpa using nFR))
        have HO13 := Lib.hid (HO12.out.kept hg (own_neR HO12.out hRb))
        have HT13 := Lib.hid (HT12.out.kept hg (own_neR HT12.out hRG))
        have HB13 : Hid (Below w.heap.size w w13) := Lib.hid (HB12.out.grown hg HB12.out.size (fun k hk => by cases hk; exact hR))
        have HR13 := Lib.hid hr
        have hz13 : G + 1 ≤ w13.heap.size := by have := hg.size; omega
        clear hg hg0 hr HC12 HO12 HT12 HB12 HR12 hz12 k0 k1
        have hz13g : G ≤ w13.heap.size := by omega
        go_wp2_with (at_builtin; refine wpList_app_Sk rfl _ _ rfl G _ _ _ rfl HT13.out _ _ _ rfl rfl (by omega) hz13g ?_; intro v' w14 ho14 hg14; have HT14 := Lib.hid ho14; have HG14 := Lib.hid hg14; clear ho14 hg14)
        have HC14 := Lib.hid (HC13.out.grown HG14.out (by intro e; have := (HT13.out.lt _ e.symm).1; omega))
        have HO14 := Lib.hid (defs_kept HO13.out HT13.out HDL.out (by omega) HG14.out)
        have HB14 : Hid (Below w.heap.size w w14) := Lib.hid (HB13.out.grown HG14.out HB13.out.size (fun k hk => by have := (HT13.out.lt _ hk).1; omega))
        have HR14 := Lib.hid (HR13.out.grown HG14.out (by intro e; have := (HT13.out.lt _ e.symm).1; omega) (fun q e => by have := (HT13.out.lt _ e).1; have := HR13.out.low; omega))
        have hz14 : G + 1 ≤ w14.heap.size := by have := HG14.out.size; omega
        have HF14 : Hid (w14.ownsRow G 9 1 v' (ls ++ [tc]).length ((ls ++ [tc]).map .string)) := Lib.hid (by rw [List.map_append, List.length_append]; exact HT14.out)
        have HS14 : Hid (∀ x ∈ ls ++ [tc], x.size ≤ 5000) := Lib.hid (fun x hx => by rcases List.mem_append.1 hx with h | h; exact HSZ.out x h; rw [List.mem_singleton.1 h]; exact htc)
        have hl14 : (ls ++ [tc]).length = ls.length + 1 := by simp
        go_roundw
        case rel => exact ⟨ls ++ [tc], m, pb + 1, by go_num, by omega, by omega, hz14, HS14, HC14, HF14, HO14, HB14, HR14⟩
        case measure => simp [intOf]
      · obtain rfl : n = 0 := by omega
        have hn1 : ¬ (0 : Int) < 0 := by omega
        go_wp2
        go_ret2
        exact ⟨s7, A', c', ls, rfl, hs7z, by omega, HSZ.out, ss_of_own HT10.out (fun s hs => by have := HSZ.out s hs; unfold maxLen; omega), HB10.out⟩
end Go.Proofs.YtiebdhbioccogaaGreatDoor

namespace Go.Proofs.YtiebdhbioccogaaGreatDoor
open Go.RowKit
set_option linter.unusedVariables false
set_option maxRecDepth 100000

/-! ### the answers at the desk have no newline: no program in sight -/
def noNl (s : ByteArray) : Prop := ∀ c ∈ s.data.toList, c ≠ 10
theorem noNl_app {s t : ByteArray} (h : noNl s) (h2 : noNl t) : noNl (s ++ t) := by
  intro c hc
  rw [ByteArray.data_append, Array.toList_append] at hc
  rcases List.mem_append.1 hc with h3 | h3
  · exact h c h3
  · exact h2 c h3
theorem noNl_name {ds : List D} {b : Int} (hv : vFlag ds b = true) {d : D} (hd : d ∈ ds) : noNl d.name := by
  intro c hc e
  have := fname_ok hv hd c hc
  subst e
  exact absurd this (by decide)
theorem noNl_dec (n : Nat) : noNl (decB n) := by
  intro c hc e
  have := dec_digit n c (by simpa [decB] using hc)
  subst e
  have : (10 : UInt8).toNat = 10 := rfl
  omega
theorem noNl_bar : noNl bar := by unfold noNl; decide
theorem noNl_join {ss : List ByteArray} (h : ∀ s ∈ ss, noNl s) : noNl (joinW ss bar) := by
  have : ∀ k, k ≤ ss.length → noNl (joinW (ss.take k) bar) := by
    intro k
    induction k with
    | zero => intro _; rw [List.take_zero, joinW_nil]; intro c hc; exact absurd hc (by simp)
    | succ k ih =>
      intro hk
      rw [joinW_step ss bar k (by omega)]
      refine noNl_app ?_ (h _ (List.getElem_mem _))
      split
      · exact ih (by omega)
      · exact noNl_app (ih (by omega)) noNl_bar
  have h2 := this ss.length (Nat.le_refl _)
  rwa [List.take_of_length_le (Nat.le_refl _)] at h2
theorem noNl_zero {ds : List D} {b : Int} (hv : vFlag ds b = true) : noNl (zeroT ds) := by
  rcases fidx_cases (isVal 0) ds with ⟨h, _⟩ | ⟨k, hk, h, _⟩
  · rw [zeroT_no (by omega)]; unfold noNl; decide
  · rw [zeroT_yes hk h]; exact noNl_name hv (List.getElem_mem hk)
theorem noNl_text {ds l : List D} {b : Int} (hv : vFlag ds b = true) (hl : ∀ d ∈ l, d ∈ ds) (a : Nat) : noNl (mText ds l a) := by
  unfold mText textW
  split
  · exact noNl_zero hv
  · refine noNl_join (fun s hs => ?_)
    rcases List.mem_append.1 hs with h | h
    · obtain ⟨d, hd, rfl⟩ := List.mem_map.1 h
      exact noNl_name hv (hl d hd)
    · unfold restW at h
      split at h
      · cases h
      · rw [List.mem_singleton.1 h]; exact noNl_dec _
theorem noNl_show {ds : List D} {b : Int} (hv : vFlag ds b = true) (x : Int) : noNl (mShowV ds b x) := by
  unfold mShowV
  split
  · exact noNl_text hv (fun d hd => (sgTo_in (mWithin_mem hd)).1) _
  · unfold noNl; decide
theorem noNl_short {ds : List D} {b : Int} (hv : vFlag ds b = true) (x : Int) : noNl (mShowSh ds b x) := by
  unfold mShowSh
  split
  · exact noNl_text hv (fun d hd => mFit_mem ((mShortL_mem _).2 d hd)) _
  · unfold noNl; decide
theorem noNl_what : noNl whatB := by unfold noNl; decide
theorem noNl_bad : noNl badB := by unfold noNl; decide
theorem noNl_number : noNl numberB := by unfold noNl; decide
theorem noNl_mk {ds : List D} {b : Int} (hv : vFlag ds b = true) (n : Int) : noNl (mkT ds b n) := by
  unfold mkT
  split
  · exact noNl_show hv _
  · split
    · exact noNl_app noNl_number (itoaB_nonl _)
    · exact noNl_bad
theorem noNl_ans {ds : List D} {b : Int} (hv : vFlag ds b = true) (line : ByteArray) : noNl (ansT ds b line) := by
  unfold ansT
  match splitT 32 line with
  | [] => exact noNl_what
  | [v] => exact noNl_what
  | [v, x] =>
    rw [ansL2]
    split
    · unfold mkS
      split
      · exact noNl_mk hv _
      · exact noNl_what
    · split
      · unfold oneT
        split
        · exact itoaB_nonl _
        · split
          · exact noNl_show hv _
          · split
            · exact noNl_short hv _
            · split
              · exact noNl_show hv _
              · exact noNl_what
      · exact noNl_what
  | [v, x, y] =>
    rw [ansL3]
    split
    · unfold twoT
      split
      · exact noNl_show hv _
      · split
        · exact noNl_show hv _
        · split
          · exact noNl_show hv _
          · exact noNl_what
    · exact noNl_what
  | v :: x :: y :: z :: t => exact noNl_what
theorem pcs_desk {ds : List D} {b : Int} {ok : Bool} (hv : ok = true → vFlag ds b = true) : ∀ ls : List ByteArray, (pcs 10 [] (deskT ds b ok ls).data.toList).length = ls.length + 1
  | [] => rfl
  | l :: r => by
    have e : (deskT ds b ok (l :: r)).data.toList = (if ok then ansT ds b l else badB).data.toList ++ 10 :: (deskT ds b ok r).data.toList := by
      show (((if ok then ansT ds b l else badB) ++ nlB) ++ deskT ds b ok r).data.toList = _
      rw [ByteArray.data_append, ByteArray.data_append, Array.toList_append, Array.toList_append, List.append_assoc]
      rfl
    have hn : noNl (if ok then ansT ds b l else badB) := by
      cases ok
      · rw [if_neg (by decide)]; exact noNl_bad
      · rw [if_pos rfl]; exact noNl_ans (hv rfl) l
    rw [e, pcs_hit 10 _ [] _ hn, List.length_cons, pcs_desk hv r]
    rfl
theorem nls_desk {ds : List D} {b : Int} {ok : Bool} (hv : ok = true → vFlag ds b = true) (ls : List ByteArray) : nls (deskT ds b ok ls) = ls.length := by
  unfold nls splitT
  rw [List.length_map, pcs_desk hv]
  rfl
theorem ext_left (s t : ByteArray) : (s ++ t).extract 0 s.size = s := by
  apply ByteArray.ext
  rw [ByteArray.data_extract, ByteArray.data_append]
  apply Array.toList_inj.1
  rw [Array.toList_extract, Array.toList_append, List.extract_eq_take_drop, List.drop_zero, Nat.sub_zero]
  show List.take s.data.size _ = _
  rw [← Array.length_toList, List.take_left]
theorem desk_pre (ds : List D) (b : Int) (ok : Bool) (ls : List ByteArray) (k : Nat) : (deskT ds b ok ls).extract 0 (deskT ds b ok (ls.take k)).size = deskT ds b ok (ls.take k) ∧ (deskT ds b ok (ls.take k)).size ≤ (deskT ds b ok ls).size := by
  have h : deskT ds b ok ls = deskT ds b ok (ls.take k) ++ deskT ds b ok (ls.drop k) := by rw [← deskT_app, List.take_append_drop]
  refine ⟨?_, ?_⟩
  · conv => lhs; rw [h]
    exact ext_left _ _
  · rw [h, ByteArray.size_append]; omega
theorem desk_some (ds : List D) (b : Int) (ok : Bool) {ls : List ByteArray} (h : ls ≠ []) : deskT ds b ok ls ≠ ⟨#[]⟩ := by
  cases ls with
  | nil => exact absurd rfl h
  | cons l r =>
    intro e
    have h2 : (((if ok then ansT ds b l else badB) ++ nlB) ++ deskT ds b ok r).size = 0 := by
      show (deskT ds b ok (l :: r)).size = 0
      rw [e]; rfl
    have h3 : nlB.size = 1 := rfl
    rw [ByteArray.size_append, ByteArray.size_append] at h2
    omega
end Go.Proofs.YtiebdhbioccogaaGreatDoor

