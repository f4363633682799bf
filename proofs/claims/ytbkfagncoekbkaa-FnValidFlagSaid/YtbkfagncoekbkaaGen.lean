import Derived.Test.YtbkfagncoekbkaaDraw
import Derived.Test.YtbkfagncoekbkaaBaseB
namespace Go.Proofs.Ytbkfagncoekbkaa
open Go.RowKit
set_option linter.unusedVariables false
set_option maxRecDepth 100000

/-! ### lists of literal numbers -/
def allI (lo hi : Int) : List Value → Prop
  | [] => True
  | .int .i64 v :: l => (lo ≤ v ∧ v ≤ hi) ∧ allI lo hi l
  | _ => False
theorem allI_get {lo hi : Int} : ∀ {l : List Value} {i : Nat}, allI lo hi l → i < l.length → ∃ v : Int, l[i]? = some (.int .i64 v) ∧ lo ≤ v ∧ v ≤ hi
  | [], i, _, hi => by simp at hi
  | x :: l, i, h, hi => by
    cases x with
    | int k v =>
      cases k <;> simp only [allI] at h
      obtain ⟨h1, h2⟩ := h
      cases i with
      | zero => exact ⟨v, rfl, h1.1, h1.2⟩
      | succ i => simpa using allI_get (l := l) (i := i) h2 (by simpa using hi)
    | _ => simp only [allI] at h
theorem litI {W : World} {cs : Array Value} {t : TypeId} {n g : Nat} {lo hi : Int} (hg : W.heap.size = g) (hn : cs.size = n) (h : allI lo hi cs.toList) : ∀ i, i < n → ∃ v : Int, (W.alloc (.cells cs t)).cell? ⟨g, i, none⟩ = some (.int .i64 v) ∧ lo ≤ v ∧ v ≤ hi := by
  subst hn hg
  intro i hi
  obtain ⟨v, h1, h2⟩ := allI_get h (i := i) (by simpa using hi)
  exact ⟨v, by rw [World.cell?_alloc_at _ _ _ _ rfl]; simpa using h1, h2⟩

def OneP (lo hi : Int) (R B : Nat) (A : Option Addr) (cb : Nat) (zs : List Int) (p : Nat) (w : World) (e : Ending) (w' : World) : Prop :=
  ∃ v : Int, e = .returned (.int .i64 v) ∧ lo ≤ v ∧ v ≤ hi ∧ w.grownBy w' (some R) ∧ Rdr w' R B A cb zs p

set_option maxHeartbeats 1000000 in
theorem one_any (lo hi : Int) (R B : Nat) (A : Option Addr) (cb : Nat) (zs : List Int) (p g n c : Nat) (w : World) (h : Rdr w R B A cb zs p) (hp : p + 1 ≤ 100000) (hg : g ≠ R) (hn : 0 < n) (hn2 : n ≤ 1000)
    (hl : ∀ i, i < n → ∃ v : Int, w.cell? ⟨g, i, none⟩ = some (.int .i64 v) ∧ lo ≤ v ∧ v ≤ hi) :
    Calls Try.prog 76 #[.pointer (some ⟨R, 0, none⟩), .slice (some ⟨g, 0, none⟩) n c] w (OneP lo hi R B A cb zs (p + 1) w) := by
  have HR := Lib.hid h
  have HL := Lib.hid hl
  clear h hl
  go_enter Try.func76, Try.ntmps76
  go_wp2_with fail
  refine (pick_any n R B A cb zs p _ HR.out hp (by omega) (by omega)).mono ?_
  rintro e w1 ⟨r, rfl, h0, h1, hgr, hr⟩
  have h2 := h1 (by omega)
  obtain ⟨k, rfl⟩ := Int.eq_ofNat_of_zero_le h0
  obtain ⟨s, hs, hsz⟩ := HL.out k (by omega)
  have hs1 := hgr.cell hs (fun e => hg (by injection e))
  have HG := Lib.hid hgr
  have HR1 := Lib.hid hr
  have hk : (k : Int) < (n : Int) := by omega
  clear hgr hr h1 hs
  go_wp2
  go_ret
  exact ⟨s, rfl, hsz.1, hsz.2, HG.out, HR1.out⟩

/-- What is so of a drawn definition. -/
def D.small (d : D) : Prop := d.name.size ≤ 100 ∧ -5000 ≤ d.val ∧ d.val ≤ 5000
theorem small_ok {d : D} (h : d.small) : d.ok := by
  obtain ⟨h1, h2, h3⟩ := h
  exact ⟨by unfold maxLen; omega, by omega, by omega⟩
theorem grown_drew {w w' : World} {row : Option Nat} (h : w.grownBy w' row) : w.grownBy w'.drew row := ⟨h.os, h.tape, h.output, h.size, h.block⟩
theorem grown_drewN {w w' : World} {row : Option Nat} (h : w.grownBy w' row) (n : Nat) : w.grownBy (w'.drewN n) row := ⟨h.os, h.tape, h.output, h.size, h.block⟩

theorem own_neR {w : World} {base R : Nat} {e : TypeId} {sz : Nat} {v : Value} {n : Nat} {xs : List Value} (h : w.ownsRow base e sz v n xs) (hR : R < base) : v.ownBlock = none ∨ v.ownBlock ≠ some R := by
  cases hb : v.ownBlock with
  | none => exact .inl rfl
  | some k => exact .inr (fun e => by have := (h.lt k hb).1; injection e with e; omega)

theorem grown_below {w W w' : World} {row : Option Nat} (h : w.grownBy W row) (hb : Below w.heap.size W w') : w.grownBy w' row :=
  ⟨hb.os.trans h.os, hb.tape.trans h.tape, hb.output.trans h.output, Nat.le_trans h.size hb.size, fun k hk hr => (hb.block k hk).trans (h.block k hk hr)⟩
theorem Rdr.belowL {w w' : World} {R B L : Nat} {A : Option Addr} {cb : Nat} {zs : List Int} {p : Nat} (h : Rdr w R B A cb zs p) (hb : Below L w w') (hL : R < L) : Rdr w' R B A cb zs p :=
  ⟨(hb.block R hL).trans h.blk, Rd.keep h.rd (fun q hq => hb.cell (by have := h.low; omega)), h.few, h.byt, h.low, h.pmax⟩

def GoodP (R B : Nat) (A : Option Addr) (cb : Nat) (zs : List Int) (p : Nat) (w : World) (e : Ending) (w' : World) : Prop :=
  ∃ (A' : Option Addr) (c : Nat) (ds : List D) (p' : Nat), e = .returned (.slice A' ds.length c) ∧ ds.length ≤ 12 ∧ (∀ d ∈ ds, d.small) ∧
    w'.ownsRow w.heap.size 37 2 (.slice A' ds.length c) ds.length (flat ds) ∧ p' ≤ p + 100 ∧ w.grownBy w' (some R) ∧ Rdr w' R B A cb zs p'

set_option maxHeartbeats 4000000 in
theorem goodDefs_enum (high : Int) (hh : (high == 4095) = false) (R B : Nat) (A : Option Addr) (cb : Nat) (zs : List Int) (p : Nat) (w : World) (h : Rdr w R B A cb zs p) (hp : p + 100 ≤ 100000) :
    Calls Try.prog 137 #[.pointer (some ⟨R, 0, none⟩), .int .i64 high] w (GoodP R B A cb zs p w) := by
  have HR := Lib.hid h
  have HL := Lib.hid h.lt
  clear h
  have hh2 : (high != 4095) = true := by simpa [bne] using hh
  go_enter Try.func137, Try.ntmps137
  have b1 : Below w.heap.size w (w.alloc (.cells #[] 37)) := (Below.refl _ _).alloc (Nat.le_refl _) _
  have HO1 : Hid ((w.alloc (.cells #[] 37)).ownsRow w.heap.size 37 2 (.slice (some ⟨w.heap.size, 0, none⟩) 0 0) 0 (flat [])) := Lib.hid (World.ownsRow_made w #[] 0 (Nat.le_refl _) (by unfold maxLen; omega) rfl)
  go_wp2_with fail
  refine (one_any 0 12 R B A cb zs p (w.heap.size + 1) 8 8 _ ((HR.out.below b1).below ((Below.refl _ _).alloc (by simp) _)) (by omega) (by have := HL.out; omega) (by omega) (by omega) (litI (by simp) rfl (by simp [allI]))).mono ?_
  rintro e w1 ⟨v, rfl, h0, h1, hgr, hr⟩
  obtain ⟨k, rfl⟩ := Int.eq_ofNat_of_zero_le h0
  have hg1 : (w.alloc (.cells #[] 37)).grownBy w1 (some R) := (World.grownBy_alloc _ _ _).trans hgr
  have HO2 := Lib.hid (HO1.out.kept hg1 (.inr (by simp [Value.ownBlock]; have := HL.out; omega)))
  have HG1 : Hid (w.grownBy w1 (some R)) := Lib.hid ((World.grownBy_alloc _ _ _).trans hg1)
  have HR1 := Lib.hid hr
  clear hr hgr hg1 b1 HO1
  go_wp2
  go_loopw [5, 6] (fun vv i wr => ∃ (ds : List D) (m p' : Nat), i = .int .i64 m ∧ ds.length + m ≤ 12 ∧ p' + 6 * m ≤ p + 1 + 6 * 12 ∧ Hid (∀ d ∈ ds, d.small) ∧ Hid (wr.ownsRow w.heap.size 37 2 vv ds.length (flat ds)) ∧ Hid (w.grownBy wr (some R)) ∧ Hid (Rdr wr R B A cb zs p')) (fun _ i _ => (intOf i).toNat)
  case atStart => exact ⟨[], k, p + 1, rfl, by simp; omega, by omega, Lib.hid (by simp), HO2, HG1, HR1⟩
  case round =>
    obtain ⟨ds, m, p', rfl, hm, hp', hsm, hown, hgr, hrd⟩ := hrel
    obtain ⟨A', c', hvv⟩ := own_form hown.out
    subst hvv
    by_cases hm0 : m = 0
    · subst hm0
      go_wp2
      go_ret
      exact ⟨A', c', ds, p', rfl, by omega, hsm.out, hown.out, by omega, hgr.out, hrd.out⟩
    · obtain ⟨m, rfl⟩ : ∃ q, m = q + 1 := ⟨m - 1, by omega⟩
      clear hm0
      have HS1 : Hid (1 ≤ w.heap.size) := Lib.hid (by have := HL.out; omega)
      go_wp2_with fail
      refine (aName_any R B A cb zs p' _ hrd.out (by omega)).mono ?_
      rintro e w2 ⟨s, rfl, hs, hg2, hr2⟩
      have HR2 := Lib.hid hr2
      have HG2 : Hid (w.grownBy w2 (some R)) := Lib.hid (hgr.out.trans hg2)
      have HO2 := Lib.hid (hown.out.kept hg2 (own_neR hown.out HL.out))
      clear hr2 hg2
      go_wp2_with fail
      refine (pick_any 12 R B A cb zs (p' + 1) _ HR2.out (by omega) (by omega) (by omega)).mono ?_
      rintro e w3 ⟨r, rfl, r0, r1, hg3, hr3⟩
      have r2 := r1 (by omega)
      have HR3 := Lib.hid hr3
      have HG3 : Hid (w.grownBy w3 (some R)) := Lib.hid (HG2.out.trans hg3)
      have HO3 := Lib.hid (HO2.out.kept hg3 (own_neR HO2.out HL.out))
      clear hr3 hg3 r1 HR2 HG2 HO2
      go_wp2_with fail
      refine (one_any (-1) 1000 R B A cb zs (p' + 1 + 1) w3.heap.size 12 12 _ (HR3.out.below ((Below.refl _ _).alloc (Nat.le_refl _) _)) (by omega) (by have := HR3.out.lt; omega) (by omega) (by omega) (litI rfl rfl (by simp [allI]; omega))).mono ?_
      rintro e w4 ⟨v, rfl, v0, v1, hg4, hr4⟩
      have HR4 := Lib.hid hr4
      have HG4 : Hid (w.grownBy w4 (some R)) := Lib.hid (HG3.out.trans ((World.grownBy_alloc _ _ _).trans hg4))
      have HO4 := Lib.hid (HO3.out.kept ((World.grownBy_alloc _ _ _).trans hg4) (own_neR HO3.out HL.out))
      clear hr4 hg4 HR3 HG3 HO3
      go_wp2_with fail
      have HS4 : Hid (SD w4 w4.heap.size A' ds.length c' ds) := Lib.hid (sd_of_own HO4.out (fun d hd => small_ok (hsm.out d hd)))
      cases hx : decide (fidx (isNm s) ds < 0)
      · have hx1 : ¬ fidx (isNm s) ds < 0 := of_decide_eq_false hx
        generalize hg : fidx (isNm s) ds = q at hx1
        have HG := Lib.hid hg
        clear hx hg
        refine (indexOf_v ds s _ _ _ _ ((HS4.out.alloc (Nat.le_refl _) _).call (by simp)) HG.out).mono ?_
        rintro e w5 ⟨rfl, rfl⟩
        go_wp2
        go_roundw
        case rel => exact ⟨ds, m, p' + 1 + 1 + 1, by go_num, by omega, by omega, hsm, Lib.hid (own_below HO4.out ((Below.refl _ _).alloc (Nat.le_refl _) _)), Lib.hid (HG4.out.trans (World.grownBy_alloc _ _ _)), Lib.hid (HR4.out.below ((Below.refl _ _).alloc (Nat.le_refl _) _))⟩
        case measure => simp [intOf]
      · have hx1 : fidx (isNm s) ds < 0 := of_decide_eq_true hx
        generalize hg : fidx (isNm s) ds = q at hx1
        have HG := Lib.hid hg
        clear hx hg
        refine (indexOf_v ds s _ _ _ _ ((HS4.out.alloc (Nat.le_refl _) _).call (by simp)) HG.out).mono ?_
        rintro e w5 ⟨rfl, rfl⟩
        go_wp2_with (at_builtin; refine wpList_app_D rfl _ _ rfl w.heap.size _ _ _ rfl (own_below HO4.out ((Below.refl _ _).alloc (Nat.le_refl _) _)) _ _ _ _ rfl (by first | rfl | simp) (by omega) (by have := HG4.out.size; simp; omega) ?_; intro v' w6 ho6 hb6; have HO6 := Lib.hid ho6; have HB6 := Lib.hid hb6; clear ho6 hb6)
        all_goals
          go_roundw
          case rel => exact ⟨ds ++ [⟨s, v⟩], m, p' + 1 + 1 + 1, by go_num, by simp; omega, by omega, Lib.hid (by intro d hd; rcases List.mem_append.1 hd with hd | hd; exact hsm.out d hd; simp at hd; subst hd; exact ⟨hs, by show (-5000 : Int) ≤ v; omega, by show v ≤ 5000; omega⟩), Lib.hid (by simpa [flat, encD] using HO6.out), Lib.hid (grown_below (HG4.out.trans (World.grownBy_alloc _ _ _)) HB6.out), Lib.hid ((HR4.out.below ((Below.refl _ _).alloc (Nat.le_refl _) _)).belowL HB6.out HL.out)⟩
          case measure => simp [intOf]
end Go.Proofs.Ytbkfagncoekbkaa
