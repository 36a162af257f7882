import Derived.Test.YtkmoglhgkcnalaaDoorAid2
import Derived.StillTail
namespace Go.Proofs.YtkmoglhgkcnalaaDoor
open Go.RowKit

theorem wpStill_run {P : Program} {ops : Array Oper} {w : World} {Q : Act → Prop} {a : Act} {o : Oper} {rest : List Oper} (hg : o.guard = none) (d : Option Tmp) (hd : o.dst = d) (v : Value)
    (hrun : (execOp a.eval o).run P w = .ok (.value v) w) (h : wpStill P ops w Q rest (a.put d v)) : wpStill P ops w Q (o :: rest) a := by
  refine wpStill_step (fun K hK => ?_)
  have hw : Region.wanted o (yielded ops a.tmps) = true := by simp [Region.wanted, hg]
  rw [if_pos hw]
  unfold Oper.still
  rw [hrun, Oper.stillUpon_value, hd]
  exact hK _ h
theorem wpStill_load_mid {P : Program} {ops : Array Oper} {w : World} {Q : Act → Prop} {a : Act} {o : Oper} {rest : List Oper} (hg : o.guard = none) (ty : TypeId) (x : Operand) (ho : o.op = .load ty x) (d : Option Tmp) (hd : o.dst = d)
    (b p : Nat) (hx : a.eval x = .pointer (some ⟨b, p, none⟩)) (cs : List Value) (t : TypeDesc) (hc : w.rangeAt b p cs) (hu : P.underlying ty = some t) (ht : t.isRow = true) (hi : (P.info? ty).map (·.size) = some cs.length)
    (h : wpStill P ops w Q rest (a.put d (.agg cs.toArray))) : wpStill P ops w Q (o :: rest) a := by
  refine wpStill_run hg d hd (.agg cs.toArray) ?_ h
  unfold execOp
  simp only [ho, hx, Instr.loadAt, Instr.sureAddr, Sem.run_bind, Sem.run_pure, Result.andThen_ok, run_loadVar_mid w b p ty cs t hc hu ht hi]

theorem range_drawn {w : World} {b o : Nat} {L : List Value} (h : w.rangeAt b o L) : ({ w with drawn := w.drawn + 1 } : World).rangeAt b o L := fun j v hv => h j v hv

theorem range_grown {w w' : World} {row : Option Nat} {b o : Nat} {L : List Value} (h : w.grownBy w' row) (hr : w.rangeAt b o L) (hne : some b ≠ row) : w'.rangeAt b o L := fun j v hv => h.cell (hr j v hv) hne

theorem step_wp {P : Program} {ops : Array Oper} {o : Oper} {a : Act} {w : World} {K : Act → World → Prop} {Q : Exit → Act → World → Prop} {E : Prop} (hg : o.guard = none) (h : o.wp P a w K Q) :
    if Region.wanted o (yielded ops a.tmps) = true then Oper.wp P o a w K Q else E := by
  rw [if_pos (by simp [Region.wanted, hg])]; exact h
theorem wp_call {P : Program} {o : Oper} {a : Act} {w : World} {K : Act → World → Prop} {Q : Exit → Act → World → Prop} (f : FuncId) (args : Array Value) (hrun : (execOp a.eval o).run P w = .ok (.enter f args) w) (v : Value) (R : World → Prop)
    (hc : Calls P f args w fun e w'' => e = .returned v ∧ R w'') (h : ∀ w'', R w'' → K (a.put o.dst v) w'') : o.wp P a w K Q := by
  unfold Oper.wp
  rw [hrun, Oper.upon_enter]
  refine hc.mono fun e w'' hh => ?_
  obtain ⟨rfl, hR⟩ := hh
  exact h _ hR

theorem range_drew {w : World} {b o : Nat} {L : List Value} (h : w.rangeAt b o L) : (World.drew w).rangeAt b o L := (World.rangeAt_drew w b o L).2 h

theorem wpOp_run {P : Program} {ops : Array Oper} {Q : Exit → Act → World → Prop} {i : Nat} {o : Oper} {K : Act → World → Prop} {a : Act} {w : World} (hi : ops[i]? = some o) (hg : o.guard = none) (h : o.wp P a w K Q) : wpOp P ops Q i K a w := by
  unfold wpOp
  simp only [hi]
  rw [if_pos (by simp [Region.wanted, hg])]
  exact .inl h
theorem all_two {p : Nat → Prop} {x y : Nat} (hx : p x) (hy : p y) : ∀ i ∈ [x, y], p i := by
  intro i hi
  rcases List.mem_cons.1 hi with rfl | hi
  · exact hx
  · rw [List.mem_singleton] at hi; subst hi; exact hy
theorem all_one {p : Nat → Prop} {x : Nat} (hx : p x) : ∀ i ∈ [x], p i := by
  intro i hi
  rw [List.mem_singleton] at hi; subst hi; exact hx

end Go.Proofs.YtkmoglhgkcnalaaDoor
