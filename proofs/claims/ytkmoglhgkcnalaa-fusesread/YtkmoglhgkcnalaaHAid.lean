/- Laws for a region that draws, taken by hand. Nothing of the program is imported. -/
import Derived.Test.YtkmoglhgkcnalaaAid
namespace Go.Proofs.Ytkmoglhgkcnalaa
open Go.RowKit

theorem step_wp {P : Program} {ops : Array Oper} {o : Oper} {a : Act} {w : World} {K : Act → World → Prop} {Q : Exit → Act → World → Prop} {E : Prop} (hg : o.guard = none) (h : o.wp P a w K Q) :
    if Region.wanted o (yielded ops a.tmps) = true then Oper.wp P o a w K Q else E := by
  rw [if_pos (by simp [Region.wanted, hg])]; exact h
theorem wp_call {P : Program} {o : Oper} {a : Act} {w : World} {K : Act → World → Prop} {Q : Exit → Act → World → Prop} (f : FuncId) (args : Array Value) (hrun : (execOp a.eval o).run P w = .ok (.enter f args) w) (v : Value) (R : World → Prop)
    (hc : Calls P f args w fun e w'' => e = .returned v ∧ R w'') (h : ∀ w'', R w'' → K (a.put o.dst v) w'') : o.wp P a w K Q := by
  unfold Oper.wp
  rw [hrun, Oper.upon_enter]
  refine hc.mono fun e w'' hh => ?_
  obtain ⟨rfl, hR⟩ := hh
  exact h _ hR

theorem range_drew {w : World} {b o : Nat} {L : List Value} (h : w.rangeAt b o L) : (World.drew w).rangeAt b o L := (World.rangeAt_drew w b o L).2 h

theorem wpOp_run {P : Program} {ops : Array Oper} {Q : Exit → Act → World → Prop} {i : Nat} {o : Oper} {K : Act → World → Prop} {a : Act} {w : World} (hi : ops[i]? = some o) (hg : o.guard = none) (h : o.wp P a w K Q) : wpOp P ops Q i K a w := by
  unfold wpOp
  simp only [hi]
  rw [if_pos (by simp [Region.wanted, hg])]
  exact .inl h
theorem all_two {p : Nat → Prop} {x y : Nat} (hx : p x) (hy : p y) : ∀ i ∈ [x, y], p i := by
  intro i hi
  rcases List.mem_cons.1 hi with rfl | hi
  · exact hx
  · rw [List.mem_singleton] at hi; subst hi; exact hy
theorem all_one {p : Nat → Prop} {x : Nat} (hx : p x) : ∀ i ∈ [x], p i := by
  intro i hi
  rw [List.mem_singleton] at hi; subst hi; exact hx

theorem wp_value {P : Program} {o : Oper} {a : Act} {w : World} {K : Act → World → Prop} {Q : Exit → Act → World → Prop} (v : Value) (w' : World) (hrun : (execOp a.eval o).run P w = .ok (.value v) w') (h : K (a.put o.dst v) w') : o.wp P a w K Q := by
  unfold Oper.wp
  rw [hrun, Oper.upon_value]
  exact h

theorem wpOp_store_mid {P : Program} {ops : Array Oper} {Q : Exit → Act → World → Prop} {i : Nat} {o : Oper} {K : Act → World → Prop} {a : Act} {w : World} (hi : ops[i]? = some o) (hg : o.guard = none) (ty : TypeId) (x y : Operand) (ho : o.op = .store ty x y)
    (b p : Nat) (cells : Array Value) (hx : a.eval x = .pointer (some ⟨b, p, none⟩)) (hy : a.eval y = .agg cells) (ht : w.there b p cells.size) (hs : (P.info? ty).map (·.size) = some cells.size) (h1 : cells.all (·.oneCell') = true) (hd : o.dst = none)
    (h : K a (w.setCells b p cells.toList)) : wpOp P ops Q i K a w :=
  wpOp_run hi hg (wp_store_mid ty x y ho b p cells hx hy ht hs h1 (by rw [hd]; exact h))

theorem wp_gen {P : Program} {c : Code} {Q : Exit → Act → World → Prop} {a : Act} {W : World} (Pr : World → Prop) (h : Pr W) (k : ∀ M, Pr M → Code.wp P c Q a M) : Code.wp P c Q a W := k W h

end Go.Proofs.Ytkmoglhgkcnalaa
