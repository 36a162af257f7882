import Derived.Test.YtkmoglhgkcnalaaDoorWrite
import Derived.Great.BuildSlice
namespace Go.Proofs.YtkmoglhgkcnalaaDoor
open Go.RowKit

/-- the cells of a hash -/
def digC (H : List Int) (blk : List UInt8) (n : Nat) : List Value := cellsW H ++ (cellsB blk ++ [.int .u64 (n : Int)])
/-- .. of no bytes -/
def newC : List Value := digC H0 (List.replicate 64 0) 0
theorem newC_length : newC.length = 73 := by simp [newC, digC, cellsW_length, cellsB_length, H0]
theorem digC_one (H : List Int) (blk : List UInt8) (n : Nat) : ∀ v ∈ digC H blk n, v.oneCell' = true := by
  intro v hv
  simp only [digC, List.mem_append, List.mem_singleton] at hv
  rcases hv with hv | hv | rfl
  · exact cellsW_one _ v hv
  · exact cellsB_one _ v hv
  · rfl
theorem Tryd.size57 : (Tryd.prog.info? 57).map (·.size) = some 73 := by kernel_rfl

set_option maxRecDepth 100000 in
set_option maxHeartbeats 400000 in
theorem new_any (w : World) :
    Calls Tryd.prog 29 #[] w fun e w' => e = .returned (.agg newC.toArray) ∧ Below w.heap.size w w' := by
  have hsz : newC.toArray.size = 73 := by rw [List.size_toArray, newC_length]
  have hi : (Tryd.prog.info? 57).map (·.size) = some newC.toArray.size := by rw [hsz]; exact Tryd.size57
  have hth : (w.alloc (.cells Tryd.zeroCells57 57)).there w.heap.size 0 newC.toArray.size := by rw [hsz]; exact there_new _ _ _ _ _ rfl (by kernel_rfl)
  have Hth : Hid ((w.alloc (.cells Tryd.zeroCells57 57)).there w.heap.size 0 newC.toArray.size) := hth
  have Hth' : Hid ((w.alloc (.cells Tryd.zeroCells57 57)).there w.heap.size 0 newC.length) := by show World.there _ _ _ newC.length; rw [newC_length]; exact there_new _ _ _ _ _ rfl (by kernel_rfl)
  have Hi : Hid ((Tryd.prog.info? 57).map (·.size) = some newC.toArray.size) := hi
  clear hsz hi hth
  go_enter Tryd.func29, Tryd.ntmps29
  go_wp2_with (first
    | refine wpList_buildTo rfl 57 #[(0, .tmp 1)] rfl (some 2) rfl newC.toArray (by kernel_rfl) ?_
    | refine wpList_store_mid rfl 57 (.tmp 0) (.tmp 2) rfl w.heap.size 0 newC.toArray rfl rfl Hth.out Hi.out (all_oneCell_toArray (digC_one _ _ _)) ?_)
  exact bodyPost_ret (v := .agg newC.toArray) (results_cell_mid (p := 0) (ty := 57) (by kernel_rfl) _ _ w.heap.size 0 newC _ rfl (World.rangeAt_setCells_same _ _ _ _ Hth'.out) Tryd.underlying57 rfl (by rw [newC_length]; exact Tryd.size57)) rfl ⟨rfl, below_setCells (Nat.le_refl _) _ _ _ _ ((Below.refl _ _).alloc (Nat.le_refl _) _)⟩

end Go.Proofs.YtkmoglhgkcnalaaDoor
