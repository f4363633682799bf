import Derived.Test.YtpmanbmhbfnefaaConvI
import Derived.Deep.DeepCutAuto
namespace Go.Proofs.Ytpmanbmhbfnefaa
open Go.RowKit Go.Maps
set_option linter.unusedVariables false
set_option maxRecDepth 100000


/-- The table of an enumeration's members. -/
def MemTP (ds : List D) (A : Option Addr) (n c : Nat) (w : World) (e : Ending) (w' : World) : Prop :=
  ∃ R k, e = .returned (tabV (vEnum ds) A n c R (mMembers ds).length k) ∧ w'.ownsRow w.heap.size 9 1 (.slice R (mMembers ds).length k) (mMembers ds).length (flatS (mMembers ds)) ∧ Below w.heap.size w w'
theorem tabOk_mem (ds : List D) : tabOk ds (mMembers ds).length = vEnum ds := by unfold tabOk; rw [decide_eq_true rfl, Bool.and_true]
theorem sd_none (w : World) (B : Nat) : SD w B none 0 0 [] := ⟨.inl rfl, rfl, Nat.le_refl _, by unfold maxLen; omega, fun d h => by cases h⟩


/-- A table of the call's own, with nothing in it yet. -/
def Ct (w : World) (b : Nat) : Prop := (w.cell? ⟨b, 0, none⟩ = some (.slice none 0 0) ∧ w.cell? ⟨b, 1, none⟩ = some (.slice none 0 0)) ∧ w.frozen? ⟨b, 0, none⟩ = false ∧ w.frozen? ⟨b, 1, none⟩ = false
theorem Ct.below {w w' : World} {b : Nat} (h : Ct w b) (hb : Below w.heap.size w w') : Ct w' b :=
  ⟨⟨keep1 hb h.1.1, keep1 hb h.1.2⟩, (hb.frozen (p := ⟨b, 0, none⟩) (World.block_lt_of_cell? _ _ h.1.1)).trans h.2.1, (hb.frozen (p := ⟨b, 1, none⟩) (World.block_lt_of_cell? _ _ h.1.2)).trans h.2.2⟩
theorem Ct.lt {w : World} {b : Nat} (h : Ct w b) : b < w.heap.size := World.block_lt_of_cell? _ _ h.1.1
theorem ctNew {w w' : World} {t : TypeId} (hb : Below (w.alloc (.cells #[.slice none 0 0, .slice none 0 0] t)).heap.size (w.alloc (.cells #[.slice none 0 0, .slice none 0 0] t)) w') : Ct w' w.heap.size :=
  Ct.below ⟨⟨by simp [go_sem], by simp [go_sem]⟩, by simp [go_sem], by simp [go_sem]⟩ hb
theorem ctNewD {w w' : World} {t : TypeId} (hb : Below (w.drew.alloc (.cells #[.slice none 0 0, .slice none 0 0] t)).heap.size (w.drew.alloc (.cells #[.slice none 0 0, .slice none 0 0] t)) w') : Ct w' w.heap.size := ctNew (w := w.drew) hb
theorem ctNe {w : World} {o : Obj} {q z : Nat} (h : (w.alloc o).drew.heap.size ≤ q ∧ q < z) : ¬ q = w.heap.size := by
  have h1 : (w.alloc o).drew.heap.size = w.heap.size + 1 := World.size_alloc w o
  omega
theorem Ct.set {w : World} {b : Nat} (h : Ct w b) (u v : Value) : ((w.setCell ⟨b, 0, none⟩ u).setCell ⟨b, 1, none⟩ v).cell? ⟨b, 0, none⟩ = some u ∧ ((w.setCell ⟨b, 0, none⟩ u).setCell ⟨b, 1, none⟩ v).cell? ⟨b, 1, none⟩ = some v := by
  have h1 : (w.setCell ⟨b, 0, none⟩ u).cell? ⟨b, 1, none⟩ = some (.slice none 0 0) := (World.cell?_setCell_other _ _ _ _ (fun e => by injection e with _ e2; omega)).trans h.1.2
  exact ⟨(World.cell?_setCell_other _ _ _ _ (fun e => by injection e with _ e2; omega)).trans (World.cell?_setCell_same' _ _ _ (by rw [h.1.1]; rfl)), World.cell?_setCell_same' _ _ _ (by rw [h1]; rfl)⟩

set_option maxHeartbeats 16000000 in
theorem memTab_any (ds : List D) (A : Option Addr) (n c : Nat) (w : World) (ha : SD w w.heap.size A n c ds) :
    Calls Try.prog 49 #[.agg #[.slice A n c]] w (MemTP ds A n c w) := by
  have HRa := Lib.hid ha
  have HOA := Lib.hid ha.ok
  have HLA := Lib.hid ha.len
  clear ha
  have HOK : Hid (∀ s ∈ mMembers ds, s.size ≤ maxLen) := Lib.hid (mMembers_ok HOA.out)
  have HTO := Lib.hid (tabOk_mem ds)
  have HMI : Hid (∀ (A : Option Addr) (n c : Nat) (w : World), SD w w.heap.size A n c ds → Calls Try.prog 23 #[.agg #[.slice A n c]] w (StrsP (mMembers ds) w)) := Lib.hid (fun A n c w h => implMembersOf_any ds _ _ _ _ h)
  unfold MemTP
  generalize mMembers ds = ns at *
  generalize hv : vEnum ds = va at *
  have HVA := Lib.hid hv
  clear hv
  obtain ⟨w0, hw⟩ : ∃ W : World, W = ((w.alloc (.cells #[.slice A n c] 32)).alloc (.cells #[.slice none 0 0, .slice none 0 0] 84)) := ⟨_, rfl⟩
  have hb : Below w.heap.size w w0 := by rw [hw]; exact (((Below.refl _ _).alloc (by first | exact Nat.le_refl _ | (simp; done) | (simp; omega)) _).alloc (by first | exact Nat.le_refl _ | (simp; done) | (simp; omega)) _)
  have hs0 : w.heap.size + 2 ≤ w0.heap.size := by rw [hw]; simp
  have pa_0 : w0.cell? ⟨w.heap.size, 0, none⟩ = some (.slice A n c) := by rw [hw]; simp [go_sem]
  have za_0 : w0.cell? ⟨w.heap.size + 1, 0, none⟩ = some (.slice none 0 0) := by rw [hw]; simp [go_sem]
  have zb_0 : w0.cell? ⟨w.heap.size + 1, 1, none⟩ = some (.slice none 0 0) := by rw [hw]; simp [go_sem]
  have HB_0 := Lib.hid hb
  have HW0 : Hid (((w.alloc (.cells #[.slice A n c] 32)).alloc (.cells #[.slice none 0 0, .slice none 0 0] 84)) = w0) := Lib.hid hw.symm
  clear hb hw
  have HF0 : Hid (w0.frozen? ⟨w.heap.size + 1, 0, none⟩ = false ∧ w0.frozen? ⟨w.heap.size + 1, 1, none⟩ = false) := Lib.hid (by rw [← HW0.out]; simp [go_sem])
  have HS := Lib.hid ((HRa.out.below HB_0.out).call HB_0.out.size)
  cases va
  · skip
    go_enter Try.func49, Try.ntmps49
    go_upto_region 1 with fail
    try rw [HW0.out]
    go_cut [3] (fun s0 wx => ∃ (g : Nat) (R : Option Addr) (k : Nat), s0 = .pointer (some ⟨g, 0, none⟩) ∧ Hid (wx.cell? ⟨g, 0, none⟩ = some (.slice none 0 0) ∧ wx.cell? ⟨g, 1, none⟩ = some (.slice none 0 0)) ∧ Hid (w0.heap.size ≤ g) ∧ Hid (wx.ownsRow w0.heap.size 9 1 (.slice R ns.length k) ns.length (flatS ns)) ∧ Hid (Below w0.heap.size w0 wx))
    case first =>
      have hb0 : Below w0.heap.size w0 w0 := Below.refl _ _
      go_region_held3 (fun w' => Below w0.heap.size w0 w' ∧ w'.cell? ⟨w.heap.size, 0, none⟩ = some (.slice A n c))
        (first | with_reducible exact ⟨hbN, keep1 (hbN) pa_0⟩ | (have hbN : Below w0.heap.size w0 _ := hb0.drew; exact ⟨hbN, keep1 (hbN) pa_0⟩) | (have hh := ‹Below w0.heap.size w0 _ ∧ _›.1; exact ⟨(hh.alloc hh.size _), keep1 ((hh.alloc hh.size _)) pa_0⟩) | exact ⟨(hbN.alloc hbN.size _), keep1 ((hbN.alloc hbN.size _)) pa_0⟩ | (have hh := ‹Below w0.heap.size w0 _ ∧ _›.1; exact ⟨((hh.setCell (by first | (simp only; omega) | (simp; omega)) _).setCell (by first | (simp only; omega) | (simp; omega)) _), keep1 (((hh.setCell (by first | (simp only; omega) | (simp; omega)) _).setCell (by first | (simp only; omega) | (simp; omega)) _)) pa_0⟩))
        (first
          | (go_at_call 23; have hh := ‹Below w0.heap.size w0 _ ∧ _›.1; refine (HMI.out _ _ _ _ ((HS.out.below hh).call hh.size)).mono ?_; rintro e1 w1 ⟨R, k, rfl, ho, hb⟩; have hbN : Below w0.heap.size w0 w1 := hh.trans (hb.mono hh.size); have hzN := hbN.size; (try (first | (have yc := ctNewD hb; have yg := yc.lt) | (have yc := ctNew hb; have yg := yc.lt))); have hzh := hh.size; have yq := fun q hq => ho.lt q hq; have ho := own_base ho hzh; (try obtain ⟨⟨ya, yb⟩, yf, yh⟩ := id yc); clear hh hb)
          | (go_at_call 88; have hh := ‹Below w0.heap.size w0 _ ∧ _›.1; refine (tableOver_string ds A R n c ns.length k _ ((HS.out.below hh).call hh.size) HTO.out).mono ?_; rintro e2 w2 ⟨he2, hb⟩; replace he2 : e2 = .returned (.tuple #[.agg #[.slice none 0 0, .slice none 0 0], .bool false]) := he2; subst he2; have hzh := hh.size; have hbN : Below w0.heap.size w0 w2 := hh.trans (hb.mono hh.size); have hzN := hbN.size; have hzb := hb.size; (try (have yc := yc.below hb)); (try (first | (have yc := ctNewD hb; have yg := yc.lt) | (have yc := ctNew hb; have yg := yc.lt))); (try (have ho := own_below ho hb)); (try (have ho := own_below (ho.alloc _) hb)); (try obtain ⟨⟨ya, yb⟩, yf, yh⟩ := id yc); clear hh hb))
      all_goals
        go_wp2_with fail
        go_meet
        first
          | exact ⟨_, R, k, rfl, Lib.hid (yc.set _ _), Lib.hid (by omega), Lib.hid (own_setCell (own_setCell ho (fun e => by have h1 := yq _ e; first | (simp at h1; done) | exact ctNe h1 rfl) _) (fun e => by have h1 := yq _ e; first | (simp at h1; done) | exact ctNe h1 rfl) _), Lib.hid ((hbN.setCell (by simp only; omega) _).setCell (by simp only; omega) _)⟩
          | exact ⟨_, R, k, rfl, Lib.hid ⟨by simp [go_sem], by simp [go_sem]⟩, Lib.hid (by omega), Lib.hid (ho.alloc _), Lib.hid (hbN.alloc hbN.size _)⟩
    case rest =>
      obtain ⟨g, R, k, rfl, hcc, hg, hrow, hbx⟩ := hcut
      obtain ⟨ca, cb⟩ := hcc.out
      have za := keep1 hbx.out za_0
      have zb := keep1 hbx.out zb_0
      have zf := (hbx.out.frozen (p := ⟨w.heap.size + 1, 0, none⟩) hs0).trans HF0.out.1
      have zg := (hbx.out.frozen (p := ⟨w.heap.size + 1, 1, none⟩) hs0).trans HF0.out.2
      have hne : ¬ (w.heap.size + 1 = g) := by have := hg.out; omega
      have hne2 : ¬ (g = w.heap.size + 1) := by have := hg.out; omega
      go_wp2
      refine bodyPost_ret (v := .agg #[.slice none 0 0, .slice none 0 0]) (by simp [results, Try.results49, go_sem, za, zb]) rfl ?_
      exact ⟨R, k, rfl, own_base (own_setCell (own_setCell hrow.out (fun e => by have h1 := (hrow.out.lt _ e).1; simp only at h1; omega) _) (fun e => by have h1 := (hrow.out.lt _ e).1; simp only at h1; omega) _) (by omega), ((HB_0.out.trans (hbx.out.mono HB_0.out.size)).setCell (by simp) _).setCell (by simp) _⟩
  · skip
    go_enter Try.func49, Try.ntmps49
    go_upto_region 1 with fail
    try rw [HW0.out]
    go_cut [3] (fun s0 wx => ∃ (g : Nat) (R : Option Addr) (k : Nat), s0 = .pointer (some ⟨g, 0, none⟩) ∧ Hid (wx.cell? ⟨g, 0, none⟩ = some (.slice A n c) ∧ wx.cell? ⟨g, 1, none⟩ = some (.slice R ns.length k)) ∧ Hid (w0.heap.size ≤ g) ∧ Hid (wx.ownsRow w0.heap.size 9 1 (.slice R ns.length k) ns.length (flatS ns)) ∧ Hid (Below w0.heap.size w0 wx))
    case first =>
      have hb0 : Below w0.heap.size w0 w0 := Below.refl _ _
      go_region_held3 (fun w' => Below w0.heap.size w0 w' ∧ w'.cell? ⟨w.heap.size, 0, none⟩ = some (.slice A n c))
        (first | with_reducible exact ⟨hbN, keep1 (hbN) pa_0⟩ | (have hbN : Below w0.heap.size w0 _ := hb0.drew; exact ⟨hbN, keep1 (hbN) pa_0⟩) | (have hh := ‹Below w0.heap.size w0 _ ∧ _›.1; exact ⟨(hh.alloc hh.size _), keep1 ((hh.alloc hh.size _)) pa_0⟩) | exact ⟨(hbN.alloc hbN.size _), keep1 ((hbN.alloc hbN.size _)) pa_0⟩ | (have hh := ‹Below w0.heap.size w0 _ ∧ _›.1; exact ⟨((hh.setCell (by first | (simp only; omega) | (simp; omega)) _).setCell (by first | (simp only; omega) | (simp; omega)) _), keep1 (((hh.setCell (by first | (simp only; omega) | (simp; omega)) _).setCell (by first | (simp only; omega) | (simp; omega)) _)) pa_0⟩))
        (first
          | (go_at_call 23; have hh := ‹Below w0.heap.size w0 _ ∧ _›.1; refine (HMI.out _ _ _ _ ((HS.out.below hh).call hh.size)).mono ?_; rintro e1 w1 ⟨R, k, rfl, ho, hb⟩; have hbN : Below w0.heap.size w0 w1 := hh.trans (hb.mono hh.size); have hzN := hbN.size; (try (first | (have yc := ctNewD hb; have yg := yc.lt) | (have yc := ctNew hb; have yg := yc.lt))); have hzh := hh.size; have yq := fun q hq => ho.lt q hq; have ho := own_base ho hzh; (try obtain ⟨⟨ya, yb⟩, yf, yh⟩ := id yc); clear hh hb)
          | (go_at_call 88; have hh := ‹Below w0.heap.size w0 _ ∧ _›.1; refine (tableOver_string ds A R n c ns.length k _ ((HS.out.below hh).call hh.size) HTO.out).mono ?_; rintro e2 w2 ⟨he2, hb⟩; replace he2 : e2 = .returned (.tuple #[.agg #[.slice A n c, .slice R ns.length k], .bool true]) := he2; subst he2; have hzh := hh.size; have hbN : Below w0.heap.size w0 w2 := hh.trans (hb.mono hh.size); have hzN := hbN.size; have hzb := hb.size; (try (have yc := yc.below hb)); (try (first | (have yc := ctNewD hb; have yg := yc.lt) | (have yc := ctNew hb; have yg := yc.lt))); (try (have ho := own_below ho hb)); (try (have ho := own_below (ho.alloc _) hb)); (try obtain ⟨⟨ya, yb⟩, yf, yh⟩ := id yc); clear hh hb))
      all_goals
        go_wp2_with fail
        go_meet
        first
          | exact ⟨_, R, k, rfl, Lib.hid (yc.set _ _), Lib.hid (by omega), Lib.hid (own_setCell (own_setCell ho (fun e => by have h1 := yq _ e; first | (simp at h1; done) | exact ctNe h1 rfl) _) (fun e => by have h1 := yq _ e; first | (simp at h1; done) | exact ctNe h1 rfl) _), Lib.hid ((hbN.setCell (by simp only; omega) _).setCell (by simp only; omega) _)⟩
          | exact ⟨_, R, k, rfl, Lib.hid ⟨by simp [go_sem], by simp [go_sem]⟩, Lib.hid (by omega), Lib.hid (ho.alloc _), Lib.hid (hbN.alloc hbN.size _)⟩
    case rest =>
      obtain ⟨g, R, k, rfl, hcc, hg, hrow, hbx⟩ := hcut
      obtain ⟨ca, cb⟩ := hcc.out
      have za := keep1 hbx.out za_0
      have zb := keep1 hbx.out zb_0
      have zf := (hbx.out.frozen (p := ⟨w.heap.size + 1, 0, none⟩) hs0).trans HF0.out.1
      have zg := (hbx.out.frozen (p := ⟨w.heap.size + 1, 1, none⟩) hs0).trans HF0.out.2
      have hne : ¬ (w.heap.size + 1 = g) := by have := hg.out; omega
      have hne2 : ¬ (g = w.heap.size + 1) := by have := hg.out; omega
      go_wp2
      refine bodyPost_ret (v := .agg #[.slice A n c, .slice R ns.length k]) (by simp [results, Try.results49, go_sem, za, zb]) rfl ?_
      exact ⟨R, k, rfl, own_base (own_setCell (own_setCell hrow.out (fun e => by have h1 := (hrow.out.lt _ e).1; simp only at h1; omega) _) (fun e => by have h1 := (hrow.out.lt _ e).1; simp only at h1; omega) _) (by omega), ((HB_0.out.trans (hbx.out.mono HB_0.out.size)).setCell (by simp) _).setCell (by simp) _⟩

end Go.Proofs.Ytpmanbmhbfnefaa
