import Derived.Test.YtbkfagncoekbkaaBaseB
namespace Go.Proofs.Ytbkfagncoekbkaa
open Go.RowKit
set_option linter.unusedVariables false
set_option maxRecDepth 100000

def encB (n : Int) : List Value := [.int .u8 n]
/-- The reader at block R: its bytes zs lie below block B, its place is p. -/
structure Rdr (w : World) (R B : Nat) (A : Option Addr) (cb : Nat) (zs : List Int) (p : Nat) : Prop where
  blk : w.heap[R]? = some (.cells #[.slice A zs.length cb, .int .i64 p] 151 (0, 0))
  rd : Rd w B 1 encB A zs
  few : zs.length ≤ 2000
  byt : ∀ z ∈ zs, 0 ≤ z ∧ z ≤ 255
  low : B ≤ R
  pmax : p ≤ 100000
theorem grown_of_below0 {w w' : World} (h : Below w.heap.size w w') : w.grownBy w' none := ⟨h.os, h.tape, h.output, h.size, fun k hk _ => h.block k hk⟩
section
variable {w w' : World} {R B : Nat} {A : Option Addr} {cb : Nat} {zs : List Int} {p : Nat}
theorem Rdr.cell0 (h : Rdr w R B A cb zs p) : w.cell? ⟨R, 0, none⟩ = some (.slice A zs.length cb) := (cell_of_row w R 0 _ _ (0, 0) h.blk).trans rfl
theorem Rdr.cell1 (h : Rdr w R B A cb zs p) : w.cell? ⟨R, 1, none⟩ = some (.int .i64 p) := (cell_of_row w R 1 _ _ (0, 0) h.blk).trans rfl
theorem Rdr.fro (h : Rdr w R B A cb zs p) (j : Nat) : w.frozen? ⟨R, j, none⟩ = false := frozen_of_row w R j _ _ h.blk
theorem Rdr.lt (h : Rdr w R B A cb zs p) : R < w.heap.size := (Array.getElem?_eq_some_iff.1 h.blk).1
theorem Rdr.grown {row : Option Nat} (h : Rdr w R B A cb zs p) (hg : w.grownBy w' row) (hr : some R ≠ row) (hB : ∀ k, row = some k → B ≤ k) : Rdr w' R B A cb zs p :=
  ⟨(hg.block R h.lt hr).trans h.blk, Rd.keep h.rd (fun q hq => World.cell?_of_block (hg.block q.block (by have := h.lt; have := h.low; omega) (fun e => by have := hB _ e.symm; omega))), h.few, h.byt, h.low, h.pmax⟩
theorem Rdr.below (h : Rdr w R B A cb zs p) (hb : Below w.heap.size w w') : Rdr w' R B A cb zs p := h.grown (grown_of_below0 hb) (by simp) (by simp)
theorem Rdr.step (h : Rdr w R B A cb zs p) (hp : p + 1 ≤ 100000) : Rdr (w.setCell ⟨R, 1, none⟩ (.int .i64 ((p : Int) + 1))) R B A cb zs (p + 1) := by
  refine ⟨?_, Rd.setCell h.rd h.low _, h.few, h.byt, h.low, hp⟩
  have := heap_setCell_same w R 1 _ _ (.int .i64 ((p : Int) + 1)) h.blk
  simpa using this
theorem Rdr.drewN (h : Rdr w R B A cb zs p) (k : Nat) : Rdr (w.drewN k) R B A cb zs p := ⟨h.blk, Rd.drewN h.rd k, h.few, h.byt, h.low, h.pmax⟩
theorem Rdr.at_ (h : Rdr w R B A cb zs p) {k : Nat} (hk : k < zs.length) : ∃ b o, A = some ⟨b, o, none⟩ ∧ b < B ∧ ∀ i (hi : i < zs.length), w.cell? ⟨b, o + i, none⟩ = some (.int .u8 zs[i]) := by
  rcases h.rd with e | ⟨b, o, hA, hb, hc⟩
  · subst e; simp at hk
  · exact ⟨b, o, hA, hb, fun i hi => by have := hc i _ (List.getElem?_eq_getElem hi) 0 _ rfl; simpa using this⟩
end

theorem xor_pos (x : Int) (h0 : 0 ≤ x) (h1 : x ≤ 1000000000) : 0 ≤ bits BinOp.xor IntKind.i64 x (x / 64) := by
  obtain ⟨X, rfl⟩ := Int.eq_ofNat_of_zero_le h0
  have e : ((X : Int) / 64) = ((X / 64 : Nat) : Int) := by omega
  rw [e]
  show 0 ≤ IntKind.i64.wrap ((BitVec.ofInt 64 (X : Int) ^^^ BitVec.ofInt 64 ((X / 64 : Nat) : Int)).toNat : Int)
  have h2 : (BitVec.ofInt 64 (X : Int) ^^^ BitVec.ofInt 64 ((X / 64 : Nat) : Int)).toNat < 2 ^ 30 := by
    rw [BitVec.toNat_xor]
    refine Nat.xor_lt_two_pow ?_ ?_
    · simp; omega
    · simp; omega
  generalize (BitVec.ofInt 64 (X : Int) ^^^ BitVec.ofInt 64 ((X / 64 : Nat) : Int)).toNat = v at h2
  rw [IntWalk.i64_in _ (by omega)]
  omega

def PickP (n : Int) (R B : Nat) (A : Option Addr) (cb : Nat) (zs : List Int) (p : Nat) (w : World) (e : Ending) (w' : World) : Prop :=
  ∃ r : Int, e = .returned (.int .i64 r) ∧ 0 ≤ r ∧ (1 ≤ n → r < n) ∧ w.grownBy w' (some R) ∧ Rdr w' R B A cb zs (p + 1)

set_option maxHeartbeats 2000000 in
theorem pick_any (n : Int) (R B : Nat) (A : Option Addr) (cb : Nat) (zs : List Int) (p : Nat) (w : World) (h : Rdr w R B A cb zs p) (hp : p + 1 ≤ 100000) (hn0 : 0 ≤ n) (hn : n ≤ 5000) :
    Calls Try.prog 94 #[.pointer (some ⟨R, 0, none⟩), .int .i64 n] w (PickP n R B A cb zs p w) := by
  have c0 := h.cell0
  have c1 := h.cell1
  have f1 := h.fro 1
  have HR := Lib.hid h
  have HS := Lib.hid (h.step hp)
  have HG : Hid (w.grownBy (w.setCell ⟨R, 1, none⟩ (.int .i64 ((p : Int) + 1))) (some R)) := Lib.hid ⟨rfl, rfl, rfl, by simp, fun k _ hk => Below.heap_setCell w _ _ k (fun e => hk (by simp only at e; rw [e]))⟩
  have hfew := h.few
  clear h
  by_cases hn1 : n < 1
  · go_enter Try.func94, Try.ntmps94
    go_wp2
    go_ret
    exact ⟨0, rfl, by omega, fun h => by omega, HG.out, HS.out⟩
  · by_cases hz : zs.length = 0
    · have hz1 : ((zs.length : Int) == 0) = true := by rw [hz]; rfl
      clear hz
      go_enter Try.func94, Try.ntmps94
      go_wp2
      go_ret
      exact ⟨0, rfl, by omega, fun h => by omega, HG.out, HS.out⟩
    · have hz1 : ((zs.length : Int) == 0) = false := by rw [beq_eq_false_iff_ne]; omega
      by_cases hk : p < zs.length
      · obtain ⟨b, o, rfl, hb, hc⟩ := HR.out.at_ (k := p) hk
        have c2 := hc p hk
        have hbR : ¬ b = R := by have := HR.out.low; omega
        have hby := HS.out.byt _ (List.getElem_mem hk)
        clear hc
        generalize zs[p] = z at c2 hby
        have hcv0 := hby.1
        have hcv1 := hby.2
        clear hby
        go_enter Try.func94, Try.ntmps94
        go_wp2
        go_ret
        exact ⟨_, rfl, Int.emod_nonneg _ (by omega), fun _ => Int.emod_lt_of_pos _ (by omega), HG.out, HS.out⟩
      · have hzp : 0 < zs.length := by omega
        obtain ⟨b, o, rfl, hb, hc⟩ := HR.out.at_ (k := 0) hzp
        have hbR : ¬ b = R := by have := HR.out.low; omega
        have l1 : p % zs.length < zs.length := Nat.mod_lt _ hzp
        have l2 : (p * 7 + 3) % zs.length < zs.length := Nat.mod_lt _ hzp
        have c2 := hc _ l1
        have c3 := hc _ l2
        have hby1 := HR.out.byt _ (List.getElem_mem l1)
        have hby2 := HR.out.byt _ (List.getElem_mem l2)
        clear hc
        generalize zs[p % zs.length] = z1 at c2 hby1
        generalize zs[(p * 7 + 3) % zs.length] = z2 at c3 hby2
        generalize zs.length = m at *
        have i1 : (p : Int) % (m : Int) < (m : Int) := Int.emod_lt_of_pos _ (by omega)
        have i2 : 0 ≤ (p : Int) % (m : Int) := Int.emod_nonneg _ (by omega)
        have i3 : ((p : Int) * 7 + 3) % (m : Int) < (m : Int) := Int.emod_lt_of_pos _ (by omega)
        have i4 : 0 ≤ ((p : Int) * 7 + 3) % (m : Int) := Int.emod_nonneg _ (by omega)
        have hv0 := hby1.1
        have hv1 := hby1.2
        have hv2 := hby2.1
        have hv3 := hby2.2
        have d1 : 0 ≤ (p : Int) / (m : Int) := Int.ediv_nonneg (by omega) (by omega)
        have d2 : (p : Int) / (m : Int) ≤ (p : Int) := Int.ediv_le_self _ (by omega)
        clear hby1 hby2 l1 l2
        go_enter Try.func94, Try.ntmps94
        go_wp2
        go_quiet (fail)
        go_wp2
        go_ret
        have hx := xor_pos (z1 * 131 + z2 * 1117 + (p : Int) * 29 + (p : Int) / (m : Int) * 53) (by omega) (by omega)
        generalize bits BinOp.xor IntKind.i64 (z1 * 131 + z2 * 1117 + (p : Int) * 29 + (p : Int) / (m : Int) * 53) ((z1 * 131 + z2 * 1117 + (p : Int) * 29 + (p : Int) / (m : Int) * 53) / 64) = x at hx
        refine ⟨x.tmod n, rfl, ?_, fun _ => ?_, ⟨HG.out.os, HG.out.tape, HG.out.output, HG.out.size, HG.out.block⟩, HS.out.drewN _⟩
        · rw [Int.tmod_eq_emod_of_nonneg hx]; exact Int.emod_nonneg _ (by omega)
        · rw [Int.tmod_eq_emod_of_nonneg hx]; exact Int.emod_lt_of_pos _ (by omega)

/-! ### lists of literals -/
def shortS : Value → Bool
  | .string s => decide (s.size ≤ 100)
  | _ => false
theorem litS {W : World} {cs : Array Value} {t : TypeId} {n : Nat} (hn : cs.size = n) (h : cs.toList.all shortS = true) : ∀ i, i < n → ∃ s : ByteArray, (W.alloc (.cells cs t)).cell? ⟨W.heap.size, i, none⟩ = some (.string s) ∧ s.size ≤ 100 := by
  subst hn
  intro i hi
  have hm : cs[i] ∈ cs.toList := by simp
  have h2 := List.all_eq_true.1 h _ hm
  cases hv : cs[i] <;> rw [hv] at h2 <;> simp [shortS] at h2
  rename_i s
  exact ⟨s, by rw [World.cell?_alloc_at _ _ _ _ rfl, Array.getElem?_eq_getElem hi, hv], h2⟩

def OfP (R B : Nat) (A : Option Addr) (cb : Nat) (zs : List Int) (p : Nat) (w : World) (e : Ending) (w' : World) : Prop :=
  ∃ s : ByteArray, e = .returned (.string s) ∧ s.size ≤ 100 ∧ w.grownBy w' (some R) ∧ Rdr w' R B A cb zs p

set_option maxHeartbeats 1000000 in
theorem of_any (R B : Nat) (A : Option Addr) (cb : Nat) (zs : List Int) (p g n c : Nat) (w : World) (h : Rdr w R B A cb zs p) (hp : p + 1 ≤ 100000) (hg : g ≠ R) (hn : 0 < n) (hn2 : n ≤ 1000)
    (hl : ∀ i, i < n → ∃ s : ByteArray, w.cell? ⟨g, i, none⟩ = some (.string s) ∧ s.size ≤ 100) :
    Calls Try.prog 154 #[.pointer (some ⟨R, 0, none⟩), .slice (some ⟨g, 0, none⟩) n c] w (OfP R B A cb zs (p + 1) w) := by
  have HR := Lib.hid h
  have HL := Lib.hid hl
  clear h hl
  go_enter Try.func154, Try.ntmps154
  go_wp2_with fail
  refine (pick_any n R B A cb zs p _ HR.out hp (by omega) (by omega)).mono ?_
  rintro e w1 ⟨r, rfl, h0, h1, hgr, hr⟩
  have h2 := h1 (by omega)
  obtain ⟨k, rfl⟩ := Int.eq_ofNat_of_zero_le h0
  obtain ⟨s, hs, hsz⟩ := HL.out k (by omega)
  have hs1 := hgr.cell hs (fun e => hg (by injection e))
  have HG := Lib.hid hgr
  have HR1 := Lib.hid hr
  have hk : (k : Int) < (n : Int) := by omega
  clear hgr hr h1 hs
  go_wp2
  go_ret
  exact ⟨s, rfl, hsz, HG.out, HR1.out⟩

set_option maxHeartbeats 1000000 in
theorem aName_any (R B : Nat) (A : Option Addr) (cb : Nat) (zs : List Int) (p : Nat) (w : World) (h : Rdr w R B A cb zs p) (hp : p + 1 ≤ 100000) :
    Calls Try.prog 156 #[.pointer (some ⟨R, 0, none⟩)] w (OfP R B A cb zs (p + 1) w) := by
  have HR := Lib.hid h
  have HL := Lib.hid h.lt
  clear h
  go_enter Try.func156, Try.ntmps156
  go_wp2_with fail
  refine (of_any R B A cb zs p w.heap.size 12 12 _ (HR.out.below ((Below.refl _ _).alloc (Nat.le_refl _) _)) hp (by have := HL.out; omega) (by omega) (by omega) (by refine litS ?_ ?_ <;> first | rfl | decide)).mono ?_
  rintro e w1 ⟨s, rfl, hs, hg, hr⟩
  have HG := Lib.hid hg
  have HR1 := Lib.hid hr
  clear hg hr
  go_wp2
  go_ret
  exact ⟨s, rfl, hs, (World.grownBy_alloc _ _ _).trans HG.out, HR1.out⟩

def AnyP (R B : Nat) (A : Option Addr) (cb : Nat) (zs : List Int) (p : Nat) (w : World) (e : Ending) (w' : World) : Prop :=
  ∃ (s : ByteArray) (p' : Nat), e = .returned (.string s) ∧ s.size ≤ 100 ∧ p' ≤ p + 2 ∧ w.grownBy w' (some R) ∧ Rdr w' R B A cb zs p'

set_option maxHeartbeats 1000000 in
theorem anyName_any (R B : Nat) (A : Option Addr) (cb : Nat) (zs : List Int) (p : Nat) (w : World) (h : Rdr w R B A cb zs p) (hp : p + 2 ≤ 100000) :
    Calls Try.prog 134 #[.pointer (some ⟨R, 0, none⟩)] w (AnyP R B A cb zs p w) := by
  have HR := Lib.hid h
  clear h
  go_enter Try.func134, Try.ntmps134
  go_wp2_with fail
  refine (pick_any 16 R B A cb zs p _ HR.out (by omega) (by omega) (by omega)).mono ?_
  rintro e w1 ⟨r, rfl, h0, h1, hgr, hr⟩
  have HG := Lib.hid hgr
  have HR1 := Lib.hid hr
  have HL := Lib.hid hr.lt
  clear hgr hr h1
  by_cases hr0 : r = 0
  · have hq : (r == 0) = true := by rw [hr0]; rfl
    clear hr0
    go_wp2_with fail
    refine (of_any R B A cb zs (p + 1) w1.heap.size 6 6 _ (HR1.out.below ((Below.refl _ _).alloc (Nat.le_refl _) _)) (by omega) (by have := HL.out; omega) (by omega) (by omega) (by refine litS ?_ ?_ <;> first | rfl | decide)).mono ?_
    rintro e w2 ⟨s, rfl, hs, hg, hr⟩
    have HG2 := Lib.hid hg
    have HR2 := Lib.hid hr
    clear hg hr
    go_wp2
    go_ret
    exact ⟨s, p + 1 + 1, rfl, hs, by omega, HG.out.trans ((World.grownBy_alloc _ _ _).trans HG2.out), HR2.out⟩
  · have hq : (r == 0) = false := by rw [beq_eq_false_iff_ne]; exact hr0
    clear hr0
    go_wp2_with fail
    refine (aName_any R B A cb zs (p + 1) _ HR1.out (by omega)).mono ?_
    rintro e w2 ⟨s, rfl, hs, hg, hr⟩
    have HG2 := Lib.hid hg
    have HR2 := Lib.hid hr
    clear hg hr
    go_wp2
    go_ret
    exact ⟨s, p + 1 + 1, rfl, hs, by omega, HG.out.trans HG2.out, HR2.out⟩

/-! ### the bytes of a code -/
structure SB (w : World) (B : Nat) (A : Option Addr) (n c : Nat) (zs : List Int) : Prop where
  rd : Rd w B 1 encB A zs
  len : zs.length = n
  cap : n ≤ c
  max : c ≤ maxLen
  byt : ∀ z ∈ zs, 0 ≤ z ∧ z ≤ 255

def NewP (w : World) (e : Ending) (w' : World) : Prop :=
  ∃ (R : Nat) (A : Option Addr) (cb : Nat) (zs : List Int), e = .returned (.pointer (some ⟨R, 0, none⟩)) ∧ w.heap.size ≤ R ∧ Rdr w' R w.heap.size A cb zs 0 ∧ Below w.heap.size w w'

set_option maxHeartbeats 1000000 in
theorem newReader_any (A : Option Addr) (n c : Nat) (zs : List Int) (w : World) (h : SB w w.heap.size A n c zs) :
    Calls Try.prog 71 #[.slice A n c] w (NewP w) := by
  obtain rfl := h.len
  have HR := Lib.hid h
  have hl := h.max
  have hl2 := h.cap
  unfold maxLen at hl
  clear h
  by_cases hn : 2000 < zs.length
  · have hlen : (zs.take 2000).length = 2000 := by simp; omega
    have HT := Lib.hid hlen
    clear hlen
    go_enter Try.func71, Try.ntmps71
    go_wp2
    go_ret
    refine ⟨w.heap.size, A, c, zs.take 2000, rfl, Nat.le_refl _, ⟨by rw [HT.out]; exact heap_alloc_new w _, Rd.alloc (Rd.take_ HR.out.rd _) (Nat.le_refl _) _, by rw [HT.out]; omega, fun z hz => HR.out.byt z (List.mem_of_mem_take hz), Nat.le_refl _, by omega⟩, (Below.refl _ _).alloc (Nat.le_refl _) _⟩
  · go_enter Try.func71, Try.ntmps71
    go_wp2
    go_ret
    refine ⟨w.heap.size, A, c, zs, rfl, Nat.le_refl _, ⟨heap_alloc_new w _, Rd.alloc HR.out.rd (Nat.le_refl _) _, by omega, HR.out.byt, Nat.le_refl _, by omega⟩, (Below.refl _ _).alloc (Nat.le_refl _) _⟩

end Go.Proofs.Ytbkfagncoekbkaa
