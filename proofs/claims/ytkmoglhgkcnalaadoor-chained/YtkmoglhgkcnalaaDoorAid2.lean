import Derived.Test.YtkmoglhgkcnalaaDoorAid
import Derived.Test.YtkmoglhgkcnalaaDoorMath2
namespace Go.Proofs.YtkmoglhgkcnalaaDoor
open Go.RowKit

theorem getW (L : List Int) (k : Nat) (h : k < L.length) : (cellsW L)[k]? = some (.int .u32 (L.getD k 0)) := by
  simp [cellsW, h]
theorem rangeW {w : World} {b o : Nat} {L : List Int} (h : w.rangeAt b o (cellsW L)) (k : Nat) (hk : k < L.length) : w.cell? ⟨b, o + k, none⟩ = some (.int .u32 (L.getD k 0)) := h k _ (getW L k hk)
theorem rangeW0 {w : World} {b : Nat} {L : List Int} (h : w.rangeAt b 0 (cellsW L)) (k : Nat) (hk : k < L.length) : w.cell? ⟨b, k, none⟩ = some (.int .u32 (L.getD k 0)) := by
  have := rangeW h k hk; rwa [Nat.zero_add] at this

/-- the world in which the rounds go: the words' box at b, the words of the schedule at c, the result's place at b + 2 -/
structure MixW (w M : World) (H KS S : List Int) (c : Nat) : Prop where
  below : Below w.heap.size w M
  hrow : M.rangeAt w.heap.size 0 (cellsW H)
  hthere : M.there w.heap.size 0 8
  res : M.there (w.heap.size + 1 + 1) 0 8
  srow : M.rangeAt c 0 (cellsW S)
  krow : M.rangeAt 0 0 (cellsW KS)

theorem mixW_make (w w1 : World) (H KS S : List Int) (B : List UInt8) (T T2 T3 : TypeId) (z8 z64 : Array Value) (h8 : z8.size = 8) (h64 : z64.size = 64) (hS : S.length = 64) (hH : H.length = 8)
    (hK : w.rangeAt 0 0 (cellsW KS)) (h0 : 0 < w.heap.size)
    (hb : Below (((w.alloc (.cells (cellsW H).toArray T)).alloc (.cells (cellsB B).toArray T2)).alloc (.cells z8 T)).heap.size (((w.alloc (.cells (cellsW H).toArray T)).alloc (.cells (cellsB B).toArray T2)).alloc (.cells z8 T)) w1) :
    MixW w ((w1.alloc (.cells z64 T3)).setCells w1.heap.size 0 (cellsW S)) H KS S w1.heap.size := by
  have hs := hb.size
  simp at hs
  have hb0 : Below w.heap.size w w1 := ((((Below.refl _ _).alloc (Nat.le_refl _) _).alloc (by simp) _).alloc (by simp; omega) _).trans (hb.mono (by simp; omega))
  have hth : (w1.alloc (.cells z64 T3)).there w1.heap.size 0 (cellsW S).length := by rw [cellsW_length, hS]; exact there_new _ _ _ _ _ rfl h64
  refine ⟨below_setCells (by omega) _ _ _ _ (hb0.alloc (by omega) _), ?_, ?_, ?_, ?_, ?_⟩
  · refine World.rangeAt_setCells_apart (World.rangeAt_alloc (range_below hb (by simp; omega) (World.rangeAt_alloc (World.rangeAt_alloc (range_new _ _ _ _ rfl) _) _)) _) _ _ _ (Or.inl (by omega))
  · refine World.there_setCells (World.there_alloc (there_below hb (by simp; omega) (World.there_alloc (World.there_alloc (there_new _ _ _ _ _ rfl (by simp [cellsW_length, hH])) _) _)) _) _ _ _
  · refine World.there_setCells (World.there_alloc (there_below hb (by simp) (there_new _ _ _ _ _ (by simp) h8)) _) _ _ _
  · exact World.rangeAt_setCells_same _ _ _ _ hth
  · refine World.rangeAt_setCells_apart (World.rangeAt_alloc (range_below hb0 h0 hK) _) _ _ _ (Or.inl (by omega))

theorem wp_gen {P : Program} {c : Code} {Q : Exit → Act → World → Prop} {a : Act} {W : World} (Pr : World → Prop) (h : Pr W) (k : ∀ M, Pr M → Code.wp P c Q a M) : Code.wp P c Q a W := k W h

theorem there_set {w : World} {b o n : Nat} (h : w.there b o n) (b' k : Nat) (v : Value) : (w.setCell ⟨b', k, none⟩ v).there b o n := World.there_setCells h b' k [v]
theorem range_set {w : World} {b k : Nat} {L : List Value} (h : w.rangeAt b 0 L) (v : Value) : (w.setCell ⟨b, k, none⟩ v).rangeAt b 0 (L.set k v) := fun j u hu => by
  rw [Nat.zero_add]
  have hj : j < L.length := by have := (List.getElem?_eq_some_iff.1 hu).1; simpa using this
  have ho := h j _ (List.getElem?_eq_getElem hj)
  rw [Nat.zero_add] at ho
  by_cases e : k = j
  · subst e
    rw [World.cell?_setCell_same _ _ _ ho]
    simp [hj] at hu
    rw [hu]
  · rw [World.cell?_setCell_other _ _ _ _ (fun h => e (by injection h)), ho]
    rw [List.getElem?_set_ne e, List.getElem?_eq_getElem hj] at hu
    exact hu

end Go.Proofs.YtkmoglhgkcnalaaDoor
