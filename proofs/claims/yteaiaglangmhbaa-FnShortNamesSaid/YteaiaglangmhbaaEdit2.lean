import Derived.Test.YteaiaglangmhbaaBaseC
import Derived.Test.YteaiaglangmhbaaPure2
namespace Go.Proofs.Yteaiaglangmhbaa
open Go.RowKit
set_option linter.unusedVariables false
set_option maxRecDepth 100000

/-- 's[k:]', without a word on where it lies. -/
theorem run_from {w : World} {B n c : Nat} {A : Option Addr} {ds : List D} (h : SD w B A n c ds) (k : Nat) (hk : k ≤ n) :
    ∃ A2, (∀ W : World, (Instr.slice 28 (.slice A n c) (some (.int .i64 (k : Int))) none none).run Try.prog W = .ok (.slice A2 (n - k) (c - k)) W) ∧ SD w B A2 (n - k) (c - k) (ds.drop k) := by
  refine ⟨if c = k then A else A.map (·.add (k * 2)), fun W => ?_, h.drop_ k hk⟩
  have hi : (k : Int) ≤ (n : Int) := by omega
  have h0 : (0 : Int) ≤ (k : Int) := by omega
  rw [run_slice_l (P := Try.prog) W 28 A n c (by kernel_rfl) .i64 (k : Int) h0 hi]
  have hs : (sizeOf (Try.prog.elem 28)).run Try.prog W = .ok 2 W := by kernel_rfl
  rw [hs]
  simp [Result.andThen, sliced]
/-- 's[:k]'. -/
theorem run_to (A : Option Addr) (n c k : Nat) (hk : k ≤ c) (W : World) :
    (Instr.slice 28 (.slice A n c) none (some (.int .i64 (k : Int))) none).run Try.prog W = .ok (.slice A k c) W := by
  have hi : (k : Int) ≤ (c : Int) := by omega
  have h0 : (0 : Int) ≤ (k : Int) := by omega
  rw [run_slice_h (P := Try.prog) W 28 A n c (by kernel_rfl) .i64 (k : Int) h0 hi]
  have hs : (sizeOf (Try.prog.elem 28)).run Try.prog W = .ok 2 W := by kernel_rfl
  rw [hs]
  cases A <;> simp [Result.andThen, sliced, Addr.add]
/-- An append of whatever slice, as one step of a region that draws its order. -/
theorem step_app_src {P : Program} {W : World} {ops : Array Oper} {o : Oper} {a : Act} {K : Act → World → Prop} {Q : Exit → Act → World → Prop} {E : Prop} (hgd : o.guard = none) (s x : Operand) (t : TypeId)
    (ho : o.op = .call { callee := .builtin .append, args := #[s, x], argTypes := #[t, t] })
    (base : Nat) (e : TypeId) (i : TypeInfo) (z : Value) (size bytes : Nat) (ht : P.underlying t = some (.slice e)) (hi : P.info? e = some i ∧ i.zero = some z ∧ i.size = size ∧ i.bytes = bytes)
    (hzs : z.cells.size = size) (hsz : 0 < size) (hby : bytes ≤ 48)
    (v : Value) (n : Nat) (xs : List Value) (hs : a.eval s = v) (hown : W.ownsRow base e size v n xs)
    (A : Option Addr) (m c : Nat) (news : List Value) (hx : a.eval x = .slice A m c) (hsrc : Src W size A m news) (h1 : ∀ u ∈ news, u.oneCell' = true) (hn : n + m ≤ 2000000) (hbase : base ≤ W.heap.size)
    (hK : ∀ v' w', w'.ownsRow base e size v' (n + m) (xs ++ news) → W.grownBy w' v.ownBlock → K (a.put o.dst v') w') :
    if Region.wanted o (yielded ops a.tmps) = true then Oper.wp P o a W K Q else E := by
  have hw : Region.wanted o (yielded ops a.tmps) = true := by simp [Region.wanted, hgd]
  rw [if_pos hw]
  obtain ⟨v', w', hr, h2, h3⟩ := run_app_src (P := P) W base t o.type e i z size bytes ht hi.1 hi.2.1 hi.2.2.1 hi.2.2.2 hzs hsz v n xs hown A m c news hsrc h1 (by unfold maxLen; omega) (by have : (n + m) * bytes ≤ 2000000 * 48 := Nat.mul_le_mul hn hby; omega) hbase
  unfold Oper.wp
  simp only [execOp, ho, resolve, invoke, builtin, Sem.run_bind, Sem.run_pure, Result.andThen_ok, List.map_toArray, List.map_cons, List.map_nil, hs, hx, hr]
  exact hK v' w' h2 h3

theorem copyDefs_n (ds : List D) (A : Option Addr) (n c : Nat) (w : World) (hr : SD w w.heap.size A n c ds) (hn : n ≤ 1000) :
    Calls Try.prog 119 #[.slice A n c] w fun e w' => ∃ A' c', e = .returned (.slice A' n c') ∧ w'.ownsRow w.heap.size 70 2 (.slice A' n c') n (ds.flatMap encD) ∧ Below w.heap.size w w' := by
  obtain rfl := hr.len
  exact copyDefs_any ds A _ c w hr (by omega)

set_option maxHeartbeats 2000000 in
theorem dropped_any (ds : List D) (k : Nat) (A : Option Addr) (n c : Nat) (w : World) (hr : SD w w.heap.size A n c ds) (hk : k < ds.length) (hn : n ≤ 1000) :
    Calls Try.prog 88 #[.slice A n c, .int .i64 k] w (FreshD (ers ds k) w) := by
  obtain rfl := hr.len
  have hcap := hr.cap
  obtain ⟨A2, hsl2, hs2⟩ := run_from hr (k + 1) (by omega)
  have hsl1 := run_to A ds.length c k (by omega)
  have HS1 := Lib.hid (hr.take_ k (by omega))
  have HS2 := Lib.hid hs2.sl
  have hsl3 : ∀ W : World, (Instr.slice 28 (.slice A ds.length c) (some (.int .i64 ((k : Int) + 1))) none none).run Try.prog W = .ok (.slice A2 (ds.length - (k + 1)) (c - (k + 1))) W := fun W => by
    have := hsl2 W
    rwa [Int.natCast_succ] at this
  have hkb : (k : Int) ≤ 1000 := by omega
  have hkw : IntKind.i64.wrap ((k : Int) + 1) = (k : Int) + 1 := by rw [IntKind.wrap_i64]; omega
  have HL : Hid (k + (ds.length - (k + 1)) = (ers ds k).length) := Lib.hid (by rw [ers_len ds k hk]; omega)
  have HFL : Hid ((ds.take k).flatMap encD ++ (ds.drop (k + 1)).flatMap encD = (ers ds k).flatMap encD) := Lib.hid (by unfold ers; rw [List.flatMap_append])
  clear hr hs2 hsl2
  generalize hm2 : ds.length - (k + 1) = m2 at *
  have hm3 : k + m2 ≤ 1000 := by omega
  generalize c - (k + 1) = c2 at *
  clear hm2
  obtain ⟨i0, hi, hz0, hz1, hz2⟩ := info_parts info_D
  have HI := Lib.hid (And.intro hi (And.intro hz0 (And.intro hz1 hz2)))
  clear hi hz0 hz1 hz2
  go_enter Try.func88, Try.ntmps88
  go_wp2_with fail
  have hb0 : Below w.heap.size w w.drew := (Below.refl _ _).drew
  go_region_held3 (fun w' => Below w.heap.size w w') (first | exact hb0 | exact hbN | exact hbM)
    (first
      | (go_at_call 119; refine (copyDefs_n (ds.take k) _ _ _ _ HS1.out.drew (by omega)).mono ?_; rintro e w1 ⟨A1, c1, rfl, ho, hb⟩; have hbN : Below w.heap.size w w1 := undrew hb)
      | (refine step_app_src rfl _ _ _ rfl w.heap.size _ i0 _ 2 24 Try.underlying28 HI.out rfl (by omega) (by omega) _ k _ rfl ho _ _ _ _ rfl ((HS2.out.below hbN).src (fun _ => rfl)) (one_D _) (by omega) hbN.size ?_; intro v' w2 ho2 hg; rw [HFL.out] at ho2; obtain ⟨A3, c3, rfl⟩ := own_form ho2; have hbM : Below w.heap.size w w2 := hbN.grown hg hbN.size (fun q hq => (ho.lt q hq).1)))
  have HO := Lib.hid ho2
  have HB := Lib.hid hbM
  clear ho ho2 hg hb hbM hbN
  go_wp2
  go_ret
  have h1 := HO.out
  rw [HL.out] at h1 ⊢
  exact ⟨A3, c3, rfl, h1, HB.out⟩

/-- ds with others in the place of the definition at k. -/
def rep (ds : List D) (k : Nat) (os : List D) : List D := ds.take k ++ (os ++ ds.drop (k + 1))

end Go.Proofs.Yteaiaglangmhbaa
