import Derived.Test.YtiebdhbioccogaaGreatDoorBaseB
import Derived.Deep.RegionLawGrows
namespace Go.Proofs.YtiebdhbioccogaaGreatDoor
open Go.RowKit
set_option linter.unusedVariables false
set_option maxRecDepth 100000

def encB (n : Int) : List Value := [.int .u8 n]
/-- The reader at block R: its bytes zs lie below block B, its place is p. -/
structure Rdr (w : World) (R B : Nat) (A : Option Addr) (cb : Nat) (zs : List Int) (p : Nat) : Prop where
  blk : w.heap[R]? = some (.cells #[.slice A zs.length cb, .int .i64 p] 97 (0, 0))
  rd : Rd w B 1 encB A zs
  few : zs.length ≤ 2000
  byt : ∀ z ∈ zs, 0 ≤ z ∧ z ≤ 255
  low : B ≤ R
  pmax : p ≤ 100000
theorem grown_of_below0 {w w' : World} (h : Below w.heap.size w w') : w.grownBy w' none := ⟨h.os, h.tape, h.output, h.size, fun k hk _ => h.block k hk⟩
section
variable {w w' : World} {R B : Nat} {A : Option Addr} {cb : Nat} {zs : List Int} {p : Nat}
theorem Rdr.cell0 (h : Rdr w R B A cb zs p) : w.cell? ⟨R, 0, none⟩ = some (.slice A zs.length cb) := (cell_of_row w R 0 _ _ (0, 0) h.blk).trans rfl
theorem Rdr.cell1 (h : Rdr w R B A cb zs p) : w.cell? ⟨R, 1, none⟩ = some (.int .i64 p) := (cell_of_row w R 1 _ _ (0, 0) h.blk).trans rfl
theorem Rdr.fro (h : Rdr w R B A cb zs p) (j : Nat) : w.frozen? ⟨R, j, none⟩ = false := frozen_of_row w R j _ _ h.blk
theorem Rdr.lt (h : Rdr w R B A cb zs p) : R < w.heap.size := (Array.getElem?_eq_some_iff.1 h.blk).1
theorem Rdr.grown {row : Option Nat} (h : Rdr w R B A cb zs p) (hg : w.grownBy w' row) (hr : some R ≠ row) (hB : ∀ k, row = some k → B ≤ k) : Rdr w' R B A cb zs p :=
  ⟨(hg.block R h.lt hr).trans h.blk, Rd.keep h.rd (fun q hq => World.cell?_of_block (hg.block q.block (by have := h.lt; have := h.low; omega) (fun e => by have := hB _ e.symm; omega))), h.few, h.byt, h.low, h.pmax⟩
theorem Rdr.below (h : Rdr w R B A cb zs p) (hb : Below w.heap.size w w') : Rdr w' R B A cb zs p := h.grown (grown_of_below0 hb) (by simp) (by simp)
theorem Rdr.step (h : Rdr w R B A cb zs p) (hp : p + 1 ≤ 100000) : Rdr (w.setCell ⟨R, 1, none⟩ (.int .i64 ((p : Int) + 1))) R B A cb zs (p + 1) := by
  refine ⟨?_, Rd.setCell h.rd h.low _, h.few, h.byt, h.low, hp⟩
  have := heap_setCell_same w R 1 _ _ (.int .i64 ((p : Int) + 1)) h.blk
  simpa using this
theorem Rdr.drewN (h : Rdr w R B A cb zs p) (k : Nat) : Rdr (w.drewN k) R B A cb zs p := ⟨h.blk, Rd.drewN h.rd k, h.few, h.byt, h.low, h.pmax⟩
theorem Rdr.at_ (h : Rdr w R B A cb zs p) {k : Nat} (hk : k < zs.length) : ∃ b o, A = some ⟨b, o, none⟩ ∧ b < B ∧ ∀ i (hi : i < zs.length), w.cell? ⟨b, o + i, none⟩ = some (.int .u8 zs[i]) := by
  rcases h.rd with e | ⟨b, o, hA, hb, hc⟩
  · subst e; simp at hk
  · exact ⟨b, o, hA, hb, fun i hi => by have := hc i _ (List.getElem?_eq_getElem hi) 0 _ rfl; simpa using this⟩
end

theorem xor_pos (x : Int) (h0 : 0 ≤ x) (h1 : x ≤ 1000000000) : 0 ≤ bits BinOp.xor IntKind.i64 x (x / 64) := by
  obtain ⟨X, rfl⟩ := Int.eq_ofNat_of_zero_le h0
  have e : ((X : Int) / 64) = ((X / 64 : Nat) : Int) := by omega
  rw [e]
  show 0 ≤ IntKind.i64.wrap ((BitVec.ofInt 64 (X : Int) ^^^ BitVec.ofInt 64 ((X / 64 : Nat) : Int)).toNat : Int)
  have h2 : (BitVec.ofInt 64 (X : Int) ^^^ BitVec.ofInt 64 ((X / 64 : Nat) : Int)).toNat < 2 ^ 30 := by
    rw [BitVec.toNat_xor]
    refine Nat.xor_lt_two_pow ?_ ?_
    · simp; omega
    · simp; omega
  generalize (BitVec.ofInt 64 (X : Int) ^^^ BitVec.ofInt 64 ((X / 64 : Nat) : Int)).toNat = v at h2
  rw [IntWalk.i64_in _ (by omega)]
  omega

def PickP (n : Int) (R B : Nat) (A : Option Addr) (cb : Nat) (zs : List Int) (p : Nat) (w : World) (e : Ending) (w' : World) : Prop :=
  ∃ r : Int, e = .returned (.int .i64 r) ∧ 0 ≤ r ∧ (1 ≤ n → r < n) ∧ w.grownBy w' (some R) ∧ Rdr w' R B A cb zs (p + 1)

set_option maxHeartbeats 2000000 in
theorem pick_any (n : Int) (R B : Nat) (A : Option Addr) (cb : Nat) (zs : List Int) (p : Nat) (w : World) (h : Rdr w R B A cb zs p) (hp : p + 1 ≤ 100000) (hn0 : 0 ≤ n) (hn : n ≤ 5000) :
    Calls Tryz.prog 20 #[.pointer (some ⟨R, 0, none⟩), .int .i64 n] w (PickP n R B A cb zs p w) := by
  have c0 := h.cell0
  have c1 := h.cell1
  have f1 := h.fro 1
  have HR := Lib.hid h
  have HS := Lib.hid (h.step hp)
  have HG : Hid (w.grownBy (w.setCell ⟨R, 1, none⟩ (.int .i64 ((p : Int) + 1))) (some R)) := Lib.hid ⟨rfl, rfl, rfl, by simp, fun k _ hk => Below.heap_setCell w _ _ k (fun e => hk (by simp only at e; rw [e]))⟩
  have hfew := h.few
  clear h
  by_cases hn1 : n < 1
  · go_enter Tryz.func20, Tryz.ntmps20
    go_wp2
    go_ret
    exact ⟨0, rfl, by omega, fun h => by omega, HG.out, HS.out⟩
  · by_cases hz : zs.length = 0
    · have hz1 : ((zs.length : Int) == 0) = true := by rw [hz]; rfl
      clear hz
      go_enter Tryz.func20, Tryz.ntmps20
      go_wp2
      go_ret
      exact ⟨0, rfl, by omega, fun h => by omega, HG.out, HS.out⟩
    · have hz1 : ((zs.length : Int) == 0) = false := by rw [beq_eq_false_iff_ne]; omega
      by_cases hk : p < zs.length
      · obtain ⟨b, o, rfl, hb, hc⟩ := HR.out.at_ (k := p) hk
        have c2 := hc p hk
        have hbR : ¬ b = R := by have := HR.out.low; omega
        have hby := HS.out.byt _ (List.getElem_mem hk)
        clear hc
        generalize zs[p] = z at c2 hby
        have hcv0 := hby.1
        have hcv1 := hby.2
        clear hby
        go_enter Tryz.func20, Tryz.ntmps20
        go_wp2
        go_ret
        exact ⟨_, rfl, Int.emod_nonneg _ (by omega), fun _ => Int.emod_lt_of_pos _ (by omega), HG.out, HS.out⟩
      · have hzp : 0 < zs.length := by omega
        obtain ⟨b, o, rfl, hb, hc⟩ := HR.out.at_ (k := 0) hzp
        have hbR : ¬ b = R := by have := HR.out.low; omega
        have l1 : p % zs.length < zs.length := Nat.mod_lt _ hzp
        have l2 : (p * 7 + 3) % zs.length < zs.length := Nat.mod_lt _ hzp
        have c2 := hc _ l1
        have c3 := hc _ l2
        have hby1 := HR.out.byt _ (List.getElem_mem l1)
        have hby2 := HR.out.byt _ (List.getElem_mem l2)
        clear hc
        generalize zs[p % zs.length] = z1 at c2 hby1
        generalize zs[(p * 7 + 3) % zs.length] = z2 at c3 hby2
        generalize zs.length = m at *
        have i1 : (p : Int) % (m : Int) < (m : Int) := Int.emod_lt_of_pos _ (by omega)
        have i2 : 0 ≤ (p : Int) % (m : Int) := Int.emod_nonneg _ (by omega)
        have i3 : ((p : Int) * 7 + 3) % (m : Int) < (m : Int) := Int.emod_lt_of_pos _ (by omega)
        have i4 : 0 ≤ ((p : Int) * 7 + 3) % (m : Int) := Int.emod_nonneg _ (by omega)
        have hv0 := hby1.1
        have hv1 := hby1.2
        have hv2 := hby2.1
        have hv3 := hby2.2
        have d1 : 0 ≤ (p : Int) / (m : Int) := Int.ediv_nonneg (by omega) (by omega)
        have d2 : (p : Int) / (m : Int) ≤ (p : Int) := Int.ediv_le_self _ (by omega)
        clear hby1 hby2 l1 l2
        go_enter Tryz.func20, Tryz.ntmps20
        go_wp2
        go_quiet (fail)
        go_wp2
        go_ret
        have hx := xor_pos (z1 * 131 + z2 * 1117 + (p : Int) * 29 + (p : Int) / (m : Int) * 53) (by omega) (by omega)
        generalize bits BinOp.xor IntKind.i64 (z1 * 131 + z2 * 1117 + (p : Int) * 29 + (p : Int) / (m : Int) * 53) ((z1 * 131 + z2 * 1117 + (p : Int) * 29 + (p : Int) / (m : Int) * 53) / 64) = x at hx
        refine ⟨x.tmod n, rfl, ?_, fun _ => ?_, ⟨HG.out.os, HG.out.tape, HG.out.output, HG.out.size, HG.out.block⟩, HS.out.drewN _⟩
        · rw [Int.tmod_eq_emod_of_nonneg hx]; exact Int.emod_nonneg _ (by omega)
        · rw [Int.tmod_eq_emod_of_nonneg hx]; exact Int.emod_lt_of_pos _ (by omega)

/-! ### lists of literals -/
def shortS : Value → Bool
  | .string s => decide (s.size ≤ 100)
  | _ => false
theorem litS {W : World} {cs : Array Value} {t : TypeId} {n : Nat} (hn : cs.size = n) (h : cs.toList.all shortS = true) : ∀ i, i < n → ∃ s : ByteArray, (W.alloc (.cells cs t)).cell? ⟨W.heap.size, i, none⟩ = some (.string s) ∧ s.size ≤ 100 := by
  subst hn
  intro i hi
  have hm : cs[i] ∈ cs.toList := by simp
  have h2 := List.all_eq_true.1 h _ hm
  cases hv : cs[i] <;> rw [hv] at h2 <;> simp [shortS] at h2
  rename_i s
  exact ⟨s, by rw [World.cell?_alloc_at _ _ _ _ rfl, Array.getElem?_eq_getElem hi, hv], h2⟩

def OfP (R B : Nat) (A : Option Addr) (cb : Nat) (zs : List Int) (p : Nat) (w : World) (e : Ending) (w' : World) : Prop :=
  ∃ s : ByteArray, e = .returned (.string s) ∧ s.size ≤ 100 ∧ w.grownBy w' (some R) ∧ Rdr w' R B A cb zs p

set_option maxHeartbeats 1000000 in
theorem of_any (R B : Nat) (A : Option Addr) (cb : Nat) (zs : List Int) (p g n c : Nat) (w : World) (h : Rdr w R B A cb zs p) (hp : p + 1 ≤ 100000) (hg : g ≠ R) (hn : 0 < n) (hn2 : n ≤ 1000)
    (hl : ∀ i, i < n → ∃ s : ByteArray, w.cell? ⟨g, i, none⟩ = some (.string s) ∧ s.size ≤ 100) :
    Calls Tryz.prog 24 #[.pointer (some ⟨R, 0, none⟩), .slice (some ⟨g, 0, none⟩) n c] w (OfP R B A cb zs (p + 1) w) := by
  have HR := Lib.hid h
  have HL := Lib.hid hl
  clear h hl
  go_enter Tryz.func24, Tryz.ntmps24
  go_wp2_with fail
  refine (pick_any n R B A cb zs p _ HR.out hp (by omega) (by omega)).mono ?_
  rintro e w1 ⟨r, rfl, h0, h1, hgr, hr⟩
  have h2 := h1 (by omega)
  obtain ⟨k, rfl⟩ := Int.eq_ofNat_of_zero_le h0
  obtain ⟨s, hs, hsz⟩ := HL.out k (by omega)
  have hs1 := hgr.cell hs (fun e => hg (by injection e))
  have HG := Lib.hid hgr
  have HR1 := Lib.hid hr
  have hk : (k : Int) < (n : Int) := by omega
  clear hgr hr h1 hs
  go_wp2
  go_ret
  exact ⟨s, rfl, hsz, HG.out, HR1.out⟩

set_option maxHeartbeats 1000000 in
theorem aName_any (R B : Nat) (A : Option Addr) (cb : Nat) (zs : List Int) (p : Nat) (w : World) (h : Rdr w R B A cb zs p) (hp : p + 1 ≤ 100000) :
    Calls Tryz.prog 135 #[.pointer (some ⟨R, 0, none⟩)] w (OfP R B A cb zs (p + 1) w) := by
  have HR := Lib.hid h
  have HL := Lib.hid h.lt
  clear h
  go_enter Tryz.func135, Tryz.ntmps135
  go_wp2_with fail
  refine (of_any R B A cb zs p w.heap.size 12 12 _ (HR.out.below ((Below.refl _ _).alloc (Nat.le_refl _) _)) hp (by have := HL.out; omega) (by omega) (by omega) (by refine litS ?_ ?_ <;> first | rfl | decide)).mono ?_
  rintro e w1 ⟨s, rfl, hs, hg, hr⟩
  have HG := Lib.hid hg
  have HR1 := Lib.hid hr
  clear hg hr
  go_wp2
  go_ret
  exact ⟨s, rfl, hs, (World.grownBy_alloc _ _ _).trans HG.out, HR1.out⟩

def AnyP (R B : Nat) (A : Option Addr) (cb : Nat) (zs : List Int) (p : Nat) (w : World) (e : Ending) (w' : World) : Prop :=
  ∃ (s : ByteArray) (p' : Nat), e = .returned (.string s) ∧ s.size ≤ 100 ∧ p' ≤ p + 2 ∧ w.grownBy w' (some R) ∧ Rdr w' R B A cb zs p'

set_option maxHeartbeats 1000000 in
theorem anyName_any (R B : Nat) (A : Option Addr) (cb : Nat) (zs : List Int) (p : Nat) (w : World) (h : Rdr w R B A cb zs p) (hp : p + 2 ≤ 100000) :
    Calls Tryz.prog 104 #[.pointer (some ⟨R, 0, none⟩)] w (AnyP R B A cb zs p w) := by
  have HR := Lib.hid h
  clear h
  go_enter Tryz.func104, Tryz.ntmps104
  go_wp2_with fail
  refine (pick_any 16 R B A cb zs p _ HR.out (by omega) (by omega) (by omega)).mono ?_
  rintro e w1 ⟨r, rfl, h0, h1, hgr, hr⟩
  have HG := Lib.hid hgr
  have HR1 := Lib.hid hr
  have HL := Lib.hid hr.lt
  clear hgr hr h1
  by_cases hr0 : r = 0
  · have hq : (r == 0) = true := by rw [hr0]; rfl
    clear hr0
    go_wp2_with fail
    refine (of_any R B A cb zs (p + 1) w1.heap.size 6 6 _ (HR1.out.below ((Below.refl _ _).alloc (Nat.le_refl _) _)) (by omega) (by have := HL.out; omega) (by omega) (by omega) (by refine litS ?_ ?_ <;> first | rfl | decide)).mono ?_
    rintro e w2 ⟨s, rfl, hs, hg, hr⟩
    have HG2 := Lib.hid hg
    have HR2 := Lib.hid hr
    clear hg hr
    go_wp2
    go_ret
    exact ⟨s, p + 1 + 1, rfl, hs, by omega, HG.out.trans ((World.grownBy_alloc _ _ _).trans HG2.out), HR2.out⟩
  · have hq : (r == 0) = false := by rw [beq_eq_false_iff_ne]; exact hr0
    clear hr0
    go_wp2_with fail
    refine (aName_any R B A cb zs (p + 1) _ HR1.out (by omega)).mono ?_
    rintro e w2 ⟨s, rfl, hs, hg, hr⟩
    have HG2 := Lib.hid hg
    have HR2 := Lib.hid hr
    clear hg hr
    go_wp2
    go_ret
    exact ⟨s, p + 1 + 1, rfl, hs, by omega, HG.out.trans HG2.out, HR2.out⟩

/-! ### the bytes of a code -/
structure SB (w : World) (B : Nat) (A : Option Addr) (n c : Nat) (zs : List Int) : Prop where
  rd : Rd w B 1 encB A zs
  len : zs.length = n
  cap : n ≤ c
  max : c ≤ maxLen
  byt : ∀ z ∈ zs, 0 ≤ z ∧ z ≤ 255

def NewP (w : World) (e : Ending) (w' : World) : Prop :=
  ∃ (R : Nat) (A : Option Addr) (cb : Nat) (zs : List Int), e = .returned (.pointer (some ⟨R, 0, none⟩)) ∧ w.heap.size ≤ R ∧ Rdr w' R w.heap.size A cb zs 0 ∧ Below w.heap.size w w'

set_option maxHeartbeats 1000000 in
theorem newReader_any (A : Option Addr) (n c : Nat) (zs : List Int) (w : World) (h : SB w w.heap.size A n c zs) :
    Calls Tryz.prog 18 #[.slice A n c] w (NewP w) := by
  obtain rfl := h.len
  have HR := Lib.hid h
  have hl := h.max
  have hl2 := h.cap
  unfold maxLen at hl
  clear h
  by_cases hn : 2000 < zs.length
  · have hlen : (zs.take 2000).length = 2000 := by simp; omega
    have HT := Lib.hid hlen
    clear hlen
    go_enter Tryz.func18, Tryz.ntmps18
    go_wp2
    go_ret
    refine ⟨w.heap.size, A, c, zs.take 2000, rfl, Nat.le_refl _, ⟨by rw [HT.out]; exact heap_alloc_new w _, Rd.alloc (Rd.take_ HR.out.rd _) (Nat.le_refl _) _, by rw [HT.out]; omega, fun z hz => HR.out.byt z (List.mem_of_mem_take hz), Nat.le_refl _, by omega⟩, (Below.refl _ _).alloc (Nat.le_refl _) _⟩
  · go_enter Tryz.func18, Tryz.ntmps18
    go_wp2
    go_ret
    refine ⟨w.heap.size, A, c, zs, rfl, Nat.le_refl _, ⟨heap_alloc_new w _, Rd.alloc HR.out.rd (Nat.le_refl _) _, by omega, HR.out.byt, Nat.le_refl _, by omega⟩, (Below.refl _ _).alloc (Nat.le_refl _) _⟩

end Go.Proofs.YtiebdhbioccogaaGreatDoor

namespace Go.Proofs.YtiebdhbioccogaaGreatDoor
open Go.RowKit
set_option linter.unusedVariables false
set_option maxRecDepth 100000

/-! ### lists of literal numbers -/
def allI (lo hi : Int) : List Value → Prop
  | [] => True
  | .int .i64 v :: l => (lo ≤ v ∧ v ≤ hi) ∧ allI lo hi l
  | _ => False
theorem allI_get {lo hi : Int} : ∀ {l : List Value} {i : Nat}, allI lo hi l → i < l.length → ∃ v : Int, l[i]? = some (.int .i64 v) ∧ lo ≤ v ∧ v ≤ hi
  | [], i, _, hi => by simp at hi
  | x :: l, i, h, hi => by
    cases x with
    | int k v =>
      cases k <;> simp only [allI] at h
      obtain ⟨h1, h2⟩ := h
      cases i with
      | zero => exact ⟨v, rfl, h1.1, h1.2⟩
      | succ i => simpa using allI_get (l := l) (i := i) h2 (by simpa using hi)
    | _ => simp only [allI] at h
theorem litI {W : World} {cs : Array Value} {t : TypeId} {n g : Nat} {lo hi : Int} (hg : W.heap.size = g) (hn : cs.size = n) (h : allI lo hi cs.toList) : ∀ i, i < n → ∃ v : Int, (W.alloc (.cells cs t)).cell? ⟨g, i, none⟩ = some (.int .i64 v) ∧ lo ≤ v ∧ v ≤ hi := by
  subst hn hg
  intro i hi
  obtain ⟨v, h1, h2⟩ := allI_get h (i := i) (by simpa using hi)
  exact ⟨v, by rw [World.cell?_alloc_at _ _ _ _ rfl]; simpa using h1, h2⟩

def OneP (lo hi : Int) (R B : Nat) (A : Option Addr) (cb : Nat) (zs : List Int) (p : Nat) (w : World) (e : Ending) (w' : World) : Prop :=
  ∃ v : Int, e = .returned (.int .i64 v) ∧ lo ≤ v ∧ v ≤ hi ∧ w.grownBy w' (some R) ∧ Rdr w' R B A cb zs p

set_option maxHeartbeats 1000000 in
theorem one_any (lo hi : Int) (R B : Nat) (A : Option Addr) (cb : Nat) (zs : List Int) (p g n c : Nat) (w : World) (h : Rdr w R B A cb zs p) (hp : p + 1 ≤ 100000) (hg : g ≠ R) (hn : 0 < n) (hn2 : n ≤ 1000)
    (hl : ∀ i, i < n → ∃ v : Int, w.cell? ⟨g, i, none⟩ = some (.int .i64 v) ∧ lo ≤ v ∧ v ≤ hi) :
    Calls Tryz.prog 22 #[.pointer (some ⟨R, 0, none⟩), .slice (some ⟨g, 0, none⟩) n c] w (OneP lo hi R B A cb zs (p + 1) w) := by
  have HR := Lib.hid h
  have HL := Lib.hid hl
  clear h hl
  go_enter Tryz.func22, Tryz.ntmps22
  go_wp2_with fail
  refine (pick_any n R B A cb zs p _ HR.out hp (by omega) (by omega)).mono ?_
  rintro e w1 ⟨r, rfl, h0, h1, hgr, hr⟩
  have h2 := h1 (by omega)
  obtain ⟨k, rfl⟩ := Int.eq_ofNat_of_zero_le h0
  obtain ⟨s, hs, hsz⟩ := HL.out k (by omega)
  have hs1 := hgr.cell hs (fun e => hg (by injection e))
  have HG := Lib.hid hgr
  have HR1 := Lib.hid hr
  have hk : (k : Int) < (n : Int) := by omega
  clear hgr hr h1 hs
  go_wp2
  go_ret
  exact ⟨s, rfl, hsz.1, hsz.2, HG.out, HR1.out⟩

/-- What is so of a drawn definition. -/
def D.small (d : D) : Prop := d.name.size ≤ 100 ∧ -5000 ≤ d.val ∧ d.val ≤ 5000
theorem small_ok {d : D} (h : d.small) : d.ok := by
  obtain ⟨h1, h2, h3⟩ := h
  exact ⟨by unfold maxLen; omega, by omega, by omega⟩
theorem grown_drew {w w' : World} {row : Option Nat} (h : w.grownBy w' row) : w.grownBy w'.drew row := ⟨h.os, h.tape, h.output, h.size, h.block⟩
theorem grown_drewN {w w' : World} {row : Option Nat} (h : w.grownBy w' row) (n : Nat) : w.grownBy (w'.drewN n) row := ⟨h.os, h.tape, h.output, h.size, h.block⟩

theorem own_neR {w : World} {base R : Nat} {e : TypeId} {sz : Nat} {v : Value} {n : Nat} {xs : List Value} (h : w.ownsRow base e sz v n xs) (hR : R < base) : v.ownBlock = none ∨ v.ownBlock ≠ some R := by
  cases hb : v.ownBlock with
  | none => exact .inl rfl
  | some k => exact .inr (fun e => by have := (h.lt k hb).1; injection e with e; omega)

theorem grown_below {w W w' : World} {row : Option Nat} (h : w.grownBy W row) (hb : Below w.heap.size W w') : w.grownBy w' row :=
  ⟨hb.os.trans h.os, hb.tape.trans h.tape, hb.output.trans h.output, Nat.le_trans h.size hb.size, fun k hk hr => (hb.block k hk).trans (h.block k hk hr)⟩
theorem Rdr.belowL {w w' : World} {R B L : Nat} {A : Option Addr} {cb : Nat} {zs : List Int} {p : Nat} (h : Rdr w R B A cb zs p) (hb : Below L w w') (hL : R < L) : Rdr w' R B A cb zs p :=
  ⟨(hb.block R hL).trans h.blk, Rd.keep h.rd (fun q hq => hb.cell (by have := h.low; omega)), h.few, h.byt, h.low, h.pmax⟩

def GoodP (R B : Nat) (A : Option Addr) (cb : Nat) (zs : List Int) (p : Nat) (w : World) (e : Ending) (w' : World) : Prop :=
  ∃ (A' : Option Addr) (c : Nat) (ds : List D) (p' : Nat), e = .returned (.slice A' ds.length c) ∧ ds.length ≤ 12 ∧ (∀ d ∈ ds, d.small) ∧
    w'.ownsRow w.heap.size 108 2 (.slice A' ds.length c) ds.length (flat ds) ∧ p' ≤ p + 100 ∧ w.grownBy w' (some R) ∧ Rdr w' R B A cb zs p'

set_option maxHeartbeats 4000000 in
theorem goodDefs_enum (high : Int) (hh : (high == 4095) = false) (R B : Nat) (A : Option Addr) (cb : Nat) (zs : List Int) (p : Nat) (w : World) (h : Rdr w R B A cb zs p) (hp : p + 100 ≤ 100000) :
    Calls Tryz.prog 103 #[.pointer (some ⟨R, 0, none⟩), .int .i64 high] w (GoodP R B A cb zs p w) := by
  have HR := Lib.hid h
  have HL := Lib.hid h.lt
  clear h
  have hh2 : (high != 4095) = true := by simpa [bne] using hh
  go_enter Tryz.func103, Tryz.ntmps103
  have b1 : Below w.heap.size w (w.alloc (.cells #[] 108)) := (Below.refl _ _).alloc (Nat.le_refl _) _
  have HO1 : Hid ((w.alloc (.cells #[] 108)).ownsRow w.heap.size 108 2 (.slice (some ⟨w.heap.size, 0, none⟩) 0 0) 0 (flat [])) := Lib.hid (World.ownsRow_made w #[] 0 (Nat.le_refl _) (by unfold maxLen; omega) rfl)
  go_wp2_with fail
  refine (one_any 0 12 R B A cb zs p (w.heap.size + 1) 8 8 _ ((HR.out.below b1).below ((Below.refl _ _).alloc (by simp) _)) (by omega) (by have := HL.out; omega) (by omega) (by omega) (litI (by simp) rfl (by simp [allI]))).mono ?_
  rintro e w1 ⟨v, rfl, h0, h1, hgr, hr⟩
  obtain ⟨k, rfl⟩ := Int.eq_ofNat_of_zero_le h0
  have hg1 : (w.alloc (.cells #[] 108)).grownBy w1 (some R) := (World.grownBy_alloc _ _ _).trans hgr
  have HO2 := Lib.hid (HO1.out.kept hg1 (.inr (by simp [Value.ownBlock]; have := HL.out; omega)))
  have HG1 : Hid (w.grownBy w1 (some R)) := Lib.hid ((World.grownBy_alloc _ _ _).trans hg1)
  have HR1 := Lib.hid hr
  clear hr hgr hg1 b1 HO1
  go_wp2
  go_loopw [5, 6] (fun vv i wr => ∃ (ds : List D) (m p' : Nat), i = .int .i64 m ∧ ds.length + m ≤ 12 ∧ p' + 6 * m ≤ p + 1 + 6 * 12 ∧ Hid (∀ d ∈ ds, d.small) ∧ Hid (wr.ownsRow w.heap.size 108 2 vv ds.length (flat ds)) ∧ Hid (w.grownBy wr (some R)) ∧ Hid (Rdr wr R B A cb zs p')) (fun _ i _ => (intOf i).toNat)
  case atStart => exact ⟨[], k, p + 1, rfl, by simp; omega, by omega, Lib.hid (by simp), HO2, HG1, HR1⟩
  case round =>
    obtain ⟨ds, m, p', rfl, hm, hp', hsm, hown, hgr, hrd⟩ := hrel
    obtain ⟨A', c', hvv⟩ := own_form hown.out
    subst hvv
    by_cases hm0 : m = 0
    · subst hm0
      go_wp2
      go_ret
      exact ⟨A', c', ds, p', rfl, by omega, hsm.out, hown.out, by omega, hgr.out, hrd.out⟩
    · obtain ⟨m, rfl⟩ : ∃ q, m = q + 1 := ⟨m - 1, by omega⟩
      clear hm0
      have HS1 : Hid (1 ≤ w.heap.size) := Lib.hid (by have := HL.out; omega)
      go_wp2_with fail
      refine (aName_any R B A cb zs p' _ hrd.out (by omega)).mono ?_
      rintro e w2 ⟨s, rfl, hs, hg2, hr2⟩
      have HR2 := Lib.hid hr2
      have HG2 : Hid (w.grownBy w2 (some R)) := Lib.hid (hgr.out.trans hg2)
      have HO2 := Lib.hid (hown.out.kept hg2 (own_neR hown.out HL.out))
      clear hr2 hg2
      go_wp2_with fail
      refine (pick_any 12 R B A cb zs (p' + 1) _ HR2.out (by omega) (by omega) (by omega)).mono ?_
      rintro e w3 ⟨r, rfl, r0, r1, hg3, hr3⟩
      have r2 := r1 (by omega)
      have HR3 := Lib.hid hr3
      have HG3 : Hid (w.grownBy w3 (some R)) := Lib.hid (HG2.out.trans hg3)
      have HO3 := Lib.hid (HO2.out.kept hg3 (own_neR HO2.out HL.out))
      clear hr3 hg3 r1 HR2 HG2 HO2
      go_wp2_with fail
      refine (one_any (-1) 1000 R B A cb zs (p' + 1 + 1) w3.heap.size 12 12 _ (HR3.out.below ((Below.refl _ _).alloc (Nat.le_refl _) _)) (by omega) (by have := HR3.out.lt; omega) (by omega) (by omega) (litI rfl rfl (by simp [allI]; omega))).mono ?_
      rintro e w4 ⟨v, rfl, v0, v1, hg4, hr4⟩
      have HR4 := Lib.hid hr4
      have HG4 : Hid (w.grownBy w4 (some R)) := Lib.hid (HG3.out.trans ((World.grownBy_alloc _ _ _).trans hg4))
      have HO4 := Lib.hid (HO3.out.kept ((World.grownBy_alloc _ _ _).trans hg4) (own_neR HO3.out HL.out))
      clear hr4 hg4 HR3 HG3 HO3
      go_wp2_with fail
      have HS4 : Hid (SD w4 w4.heap.size A' ds.length c' ds) := Lib.hid (sd_of_own HO4.out (fun d hd => small_ok (hsm.out d hd)))
      cases hx : decide (fidx (isNm s) ds < 0)
      · have hx1 : ¬ fidx (isNm s) ds < 0 := of_decide_eq_false hx
        generalize hg : fidx (isNm s) ds = q at hx1
        have HG := Lib.hid hg
        clear hx hg
        refine (indexOf_v ds s _ _ _ _ ((HS4.out.alloc (Nat.le_refl _) _).call (by simp)) HG.out).mono ?_
        rintro e w5 ⟨rfl, rfl⟩
        go_wp2
        go_roundw
        case rel => exact ⟨ds, m, p' + 1 + 1 + 1, by go_num, by omega, by omega, hsm, Lib.hid (own_below HO4.out ((Below.refl _ _).alloc (Nat.le_refl _) _)), Lib.hid (HG4.out.trans (World.grownBy_alloc _ _ _)), Lib.hid (HR4.out.below ((Below.refl _ _).alloc (Nat.le_refl _) _))⟩
        case measure => simp [intOf]
      · have hx1 : fidx (isNm s) ds < 0 := of_decide_eq_true hx
        generalize hg : fidx (isNm s) ds = q at hx1
        have HG := Lib.hid hg
        clear hx hg
        refine (indexOf_v ds s _ _ _ _ ((HS4.out.alloc (Nat.le_refl _) _).call (by simp)) HG.out).mono ?_
        rintro e w5 ⟨rfl, rfl⟩
        go_wp2_with (at_builtin; refine wpList_app_D rfl _ _ rfl w.heap.size _ _ _ rfl (own_below HO4.out ((Below.refl _ _).alloc (Nat.le_refl _) _)) _ _ _ _ rfl (by first | rfl | simp) (by omega) (by have := HG4.out.size; simp; omega) ?_; intro v' w6 ho6 hb6; have HO6 := Lib.hid ho6; have HB6 := Lib.hid hb6; clear ho6 hb6)
        all_goals
          go_roundw
          case rel => exact ⟨ds ++ [⟨s, v⟩], m, p' + 1 + 1 + 1, by go_num, by simp; omega, by omega, Lib.hid (by intro d hd; rcases List.mem_append.1 hd with hd | hd; exact hsm.out d hd; simp at hd; subst hd; exact ⟨hs, by show (-5000 : Int) ≤ v; omega, by show v ≤ 5000; omega⟩), Lib.hid (by simpa [flat, encD] using HO6.out), Lib.hid (grown_below (HG4.out.trans (World.grownBy_alloc _ _ _)) HB6.out), Lib.hid ((HR4.out.below ((Below.refl _ _).alloc (Nat.le_refl _) _)).belowL HB6.out HL.out)⟩
          case measure => simp [intOf]
end Go.Proofs.YtiebdhbioccogaaGreatDoor

namespace Go.Proofs.YtiebdhbioccogaaGreatDoor
open Go.RowKit
set_option linter.unusedVariables false
set_option maxRecDepth 100000


theorem grown_undrew {w w' : World} {o : Obj} {row : Option Nat} (h : ((w.drewN 1).alloc o).grownBy w' row) : w.grownBy w' row :=
  (World.grownBy_alloc w o row).trans ⟨h.os, h.tape, h.output, h.size, h.block⟩

theorem small_set {ds : List D} (h : ∀ d ∈ ds, d.small) {k : Nat} (hk : k < ds.length) {d : D} (hd : ds[k].small → d.small) : ∀ x ∈ ds.set k d, x.small := by
  intro x hx
  rcases List.mem_or_eq_of_mem_set hx with h1 | rfl
  · exact h x h1
  · exact hd (h _ (List.getElem_mem hk))

theorem small_app {ds es : List D} (h : ∀ d ∈ ds, d.small) (h2 : ∀ d ∈ es, d.small) : ∀ d ∈ ds ++ es, d.small := by
  intro d hd
  rcases List.mem_append.1 hd with h1 | h1
  · exact h d h1
  · exact h2 d h1
/-- .. behind a change of one block that came behind w. -/
theorem grown_row {w W w' : World} {row : Option Nat} {g : Nat} (h : w.grownBy W row) (hg : W.grownBy w' (some g)) (hw : w.heap.size ≤ g) : w.grownBy w' row :=
  ⟨hg.os.trans h.os, hg.tape.trans h.tape, hg.output.trans h.output, Nat.le_trans h.size hg.size, fun k hk hr => (hg.block k (Nat.lt_of_lt_of_le hk h.size) (fun e => by cases e; omega)).trans (h.block k hk hr)⟩

theorem zero_small : (⟨ByteArray.empty, 0⟩ : D).small := ⟨by decide, by decide, by decide⟩

/-- A drawn enumeration: at most m definitions, q more steps of the reader at most. -/
def GenEP (m q R B : Nat) (A : Option Addr) (cb : Nat) (zs : List Int) (p : Nat) (w : World) (e : Ending) (w' : World) : Prop :=
  ∃ (A' : Option Addr) (c : Nat) (ds : List D) (p' : Nat), e = .returned (.agg #[.slice A' ds.length c]) ∧ ds.length ≤ m ∧ (∀ d ∈ ds, d.small) ∧
    w'.ownsRow w.heap.size 108 2 (.slice A' ds.length c) ds.length (flat ds) ∧ p' ≤ p + q ∧ w.grownBy w' (some R) ∧ Rdr w' R B A cb zs p'

theorem grown_frozen {w w' : World} {row : Option Nat} (hg : w.grownBy w' row) {a : Addr} {b : Bool} (hb : a.block < w.heap.size) (h : w.frozen? a = b) (hne : some a.block ≠ row) : w'.frozen? a = b :=
  (World.frozen?_of_block (hg.block a.block hb hne)).trans h
/-- .. behind a write into a block that came behind w. -/
theorem grown_set {w W : World} {row : Option Nat} (h : w.grownBy W row) {a : Addr} (ha : w.heap.size ≤ a.block) (v : Value) : w.grownBy (W.setCell a v) row :=
  grown_below h ((Below.refl _ _).setCell ha v)
theorem Rdr.set {W : World} {R B : Nat} {A : Option Addr} {cb : Nat} {zs : List Int} {p : Nat} (h : Rdr W R B A cb zs p) {a : Addr} (ha : R < a.block) (v : Value) : Rdr (W.setCell a v) R B A cb zs p :=
  h.belowL (L := a.block) ((Below.refl _ _).setCell (Nat.le_refl _) v) ha

end Go.Proofs.YtiebdhbioccogaaGreatDoor

namespace Go.Proofs.YtiebdhbioccogaaGreatDoor
open Go.RowKit
set_option linter.unusedVariables false
set_option maxRecDepth 100000

end Go.Proofs.YtiebdhbioccogaaGreatDoor

namespace Go.Proofs.YtiebdhbioccogaaGreatDoor
open Go.RowKit
set_option linter.unusedVariables false
set_option maxRecDepth 100000

/-- A drawn enumeration and a name. -/
def NamP (R B : Nat) (A : Option Addr) (cb : Nat) (zs : List Int) (p : Nat) (w : World) (e : Ending) (w' : World) : Prop :=
  ∃ (A' : Option Addr) (c : Nat) (ds : List D) (s : ByteArray) (p' : Nat), e = .returned (.tuple #[.agg #[.slice A' ds.length c], .string s]) ∧ s.size ≤ 100 ∧ ds.length ≤ 25 ∧ (∀ d ∈ ds, d.small) ∧
    w'.ownsRow w.heap.size 108 2 (.slice A' ds.length c) ds.length (flat ds) ∧ p' ≤ p + 120 ∧ w.grownBy w' (some R) ∧ Rdr w' R B A cb zs p'

end Go.Proofs.YtiebdhbioccogaaGreatDoor

namespace Go.Proofs.YtiebdhbioccogaaGreatDoor
open Go.RowKit
set_option linter.unusedVariables false

theorem SB.alloc0 {w : World} {A : Option Addr} {n c : Nat} {zs : List Int} (h : SB w w.heap.size A n c zs) (o : Obj) : SB (w.alloc o) (w.alloc o).heap.size A n c zs :=
  ⟨Rd.more (Rd.alloc h.rd (Nat.le_refl _) _) (by simp), h.len, h.cap, h.max, h.byt⟩
/-- A drawn enumeration. -/
def DrawE (w : World) (e : Ending) (w' : World) : Prop :=
  ∃ (A : Option Addr) (c : Nat) (ds : List D), e = .returned (.agg #[.slice A ds.length c]) ∧ ds.length ≤ 25 ∧ (∀ d ∈ ds, d.small) ∧ SD w' w'.heap.size A ds.length c ds ∧ Below w.heap.size w w'
/-- A drawn enumeration and a name. -/
def DrawN (w : World) (e : Ending) (w' : World) : Prop :=
  ∃ (A : Option Addr) (c : Nat) (ds : List D) (s : ByteArray), e = .returned (.tuple #[.agg #[.slice A ds.length c], .string s]) ∧ s.size ≤ 100 ∧ ds.length ≤ 25 ∧ (∀ d ∈ ds, d.small) ∧ SD w' w'.heap.size A ds.length c ds ∧ Below w.heap.size w w'












end Go.Proofs.YtiebdhbioccogaaGreatDoor

