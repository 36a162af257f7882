import Derived.Test.YtkmoglhgkcnalaaDoorRows
import Derived.Test.YtkmoglhgkcnalaaDoorAid3
namespace Go.Proofs.YtkmoglhgkcnalaaDoor
open Go.RowKit

/-- so many cells, from a place on -/
def blkAt (W : World) (b o n : Nat) : Array Value := ((List.range n).map fun j => (W.cell? ⟨b, o + j, none⟩).getD undef).toArray
theorem blkAt_of_range {W : World} {b o n : Nat} {L : List Value} (h : W.rangeAt b o L) (hl : L.length = n) : blkAt W b o n = L.toArray := by
  subst hl
  unfold blkAt
  congr 1
  apply List.ext_getElem
  · simp
  · intro j h1 h2
    simp [h j _ (List.getElem?_eq_getElem h2)]
theorem range_of_there {W : World} {b o n : Nat} (h : W.there b o n) : W.rangeAt b o ((List.range n).map fun j => (W.cell? ⟨b, o + j, none⟩).getD undef) := fun j v hv => by
  have hj : j < n := by have := (List.getElem?_eq_some_iff.1 hv).1; simpa using this
  obtain ⟨u, hu⟩ := Option.isSome_iff_exists.1 (h j hj).1
  simp [hj, hu] at hv
  rw [hu, hv]
theorem load54_rule (W : World) (b : Nat) (h : W.there b 8 64) : (Instr.loadAt 54 (.pointer (some ⟨b, 8, none⟩))).run Tryd.prog W = .ok (.agg (blkAt W b 8 64)) W :=
  run_loadAt_mid W b 8 54 _ _ (range_of_there h) Tryd.underlying54 rfl (by rw [List.length_map, List.length_range]; kernel_rfl)
theorem load53_rule (W : World) (b : Nat) (h : W.there b 0 8) : (Instr.loadAt 53 (.pointer (some ⟨b, 0, none⟩))).run Tryd.prog W = .ok (.agg (blkAt W b 0 8)) W :=
  run_loadAt_mid W b 0 53 _ _ (range_of_there h) Tryd.underlying53 rfl (by rw [List.length_map, List.length_range]; kernel_rfl)
theorem store53_rule (W : World) (b : Nat) (L : List Int) (h : W.there b 0 8) (hl : L.length = 8) : (Instr.storeAt 53 (.pointer (some ⟨b, 0, none⟩)) (.agg (cellsW L).toArray)).run Tryd.prog W = .ok () (W.setCells b 0 (cellsW L)) := by
  have hs : (cellsW L).toArray.size = 8 := by simp [cellsW_length, hl]
  exact run_storeAt_mid W b 0 53 (cellsW L).toArray (by rw [hs]; exact h) (by rw [hs]; kernel_rfl) (all_oneCell_toArray (cellsW_one L))

/-- a load, a store, under a name that the walk does not open -/
def ld (ty : TypeId) (b o : Nat) : Sem Value := Instr.loadAt ty (.pointer (some ⟨b, o, none⟩))
def st (ty : TypeId) (b o : Nat) (v : Value) : Sem Unit := Instr.storeAt ty (.pointer (some ⟨b, o, none⟩)) v
theorem ld_name (ty : TypeId) (b o : Nat) : Instr.loadAt ty (.pointer (some ⟨b, o, none⟩)) = ld ty b o := rfl
theorem st_name (ty : TypeId) (b o : Nat) (v : Value) : Instr.storeAt ty (.pointer (some ⟨b, o, none⟩)) v = st ty b o v := rfl

theorem wpOp_store_mid {P : Program} {ops : Array Oper} {Q : Exit → Act → World → Prop} {i : Nat} {o : Oper} {K : Act → World → Prop} {a : Act} {w : World} (hi : ops[i]? = some o) (hg : o.guard = none) (ty : TypeId) (x y : Operand) (ho : o.op = .store ty x y)
    (b p : Nat) (cells : Array Value) (hx : a.eval x = .pointer (some ⟨b, p, none⟩)) (hy : a.eval y = .agg cells) (ht : w.there b p cells.size) (hs : (P.info? ty).map (·.size) = some cells.size) (h1 : cells.all (·.oneCell') = true) (hd : o.dst = none)
    (h : K a (w.setCells b p cells.toList)) : wpOp P ops Q i K a w :=
  wpOp_run hi hg (wp_store_mid ty x y ho b p cells hx hy ht hs h1 (by rw [hd]; exact h))

end Go.Proofs.YtkmoglhgkcnalaaDoor
