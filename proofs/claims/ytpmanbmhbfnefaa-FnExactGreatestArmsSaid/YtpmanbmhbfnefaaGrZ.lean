import Derived.Test.YtpmanbmhbfnefaaGrV
namespace Go.Proofs.Ytpmanbmhbfnefaa
open Go.RowKit Go.Maps
set_option linter.unusedVariables false
set_option maxRecDepth 100000

/-! ### the zero value of an array of 4096 bools -/
theorem fl2 {x y : List Value} {v : Value} {n : Nat} (a : Nat) (hn : n = a + a) (h1 : x = List.replicate a v) (h2 : y = List.replicate a v) : List.append x y = List.replicate n v := by
  subst hn h1 h2
  exact List.replicate_append_replicate
set_option maxHeartbeats 4000000 in
theorem zero4096 : Try.t114.zero = some (.agg (List.replicate 4096 (.bool false)).toArray) := by
  delta Try.t114
  refine congrArg (fun l => some (Value.agg (List.toArray l))) ?_
  refine fl2 2048 rfl ?_ ?_
  all_goals refine fl2 1024 rfl ?_ ?_
  all_goals refine fl2 512 rfl ?_ ?_
  all_goals refine fl2 256 rfl ?_ ?_
  all_goals refine fl2 128 rfl ?_ ?_
  all_goals refine fl2 64 rfl ?_ ?_
  all_goals rfl
theorem info4096 : Try.prog.info? 114 = some Try.t114 := by kernel_rfl
theorem size4096 : Try.t114.size = 4096 := rfl
theorem zeroV : ∃ zv : Array Value, Try.t114.zero = some (.agg zv) ∧ ∀ j, j < 4096 → zv[j]? = some (.bool false) := by
  refine ⟨_, zero4096, fun j hj => ?_⟩
  rw [List.getElem?_toArray, List.getElem?_replicate, if_pos hj]
section
variable {P : Program} {ops : Array Oper} {rest : List Oper} {o : Oper} {a : Act} {w : World} {Q : Exit → Act → World → Prop}
theorem wpList_allocBig (hg : o.guard = none) (t : TypeId) (ho : o.op = .alloc t) (i : TypeInfo) (hi : P.info? t = some i) (zv : Array Value) (hz : i.zero = some (.agg zv))
    (h : wpList P ops Q rest (a.put o.dst (.pointer (some ⟨w.heap.size, 0, none⟩))) (w.alloc (.cells zv t))) : wpList P ops Q (o :: rest) a w := by
  refine wpList_plain hg fun K hK => ?_
  unfold Oper.wp execOp
  simp only [ho, Sem.run_bind, Instr.alloc, zeroValue, typeInfo, program, Sem.run, hi, hz, newVar, newRow, Value.cells, run_newObj_alloc, Sem.run_pure, Result.andThen_ok]
  exact hK _ _ h
theorem run_loadBig (t : TypeId) (i : TypeInfo) (n : Nat) (e : TypeId) (hu : P.underlying t = some (.array n e)) (hi : P.info? t = some i) (hn : i.size = n) (g : Nat) (F : Nat → Bool)
    (h : ∀ j, j < n → w.cell? ⟨g, j, none⟩ = some (.bool (F j))) : (Instr.loadAt t (.pointer (some ⟨g, 0, none⟩))).run P w = .ok (.agg ((List.range n).map fun j => Value.bool (F j)).toArray) w := by
  have h2 := run_loadCells (P := P) w ⟨g, 0, none⟩ n (fun j => .bool (F j)) (fun j hj => by
    rcases Nat.eq_zero_or_pos j with rfl | h0
    · exact h 0 hj
    · have := h j hj
      simpa [Addr.add, Nat.ne_of_gt h0] using this)
  simp only [Instr.loadAt, loadVar, isAgg, underlying, sizeOf, typeInfo, program, Instr.sureAddr, Sem.run_bind, Sem.run, hu, hi, hn, Sem.run_pure, Result.andThen_ok, if_true]
  first
  | (rw [h2]; rfl)
  | (go_simp; rw [h2]; rfl)
  | (simp [h2, Sem.run]; done)
end
end Go.Proofs.Ytpmanbmhbfnefaa
