/- What fuses.Read has in memory while it goes over the places. -/
import Derived.Test.YtkmoglhgkcnalaaFRefF
import Derived.RangeFuncWrites
namespace Go.Proofs.Ytkmoglhgkcnalaa
open Go.RowKit

theorem heap_set {M : World} {g e : Nat} {c : Array Value} {fr : Nat × Nat} (h : M.heap[g]? = some (.cells c e fr)) (k : Nat) (v : Value) : (M.setCell ⟨g, k, none⟩ v).heap[g]? = some (.cells (c.setIfInBounds k v) e fr) := by
  simp [World.setCell, Array.getElem?_modify, h]
theorem heap_set_other {M : World} {g g' : Nat} (h : g ≠ g') (k : Nat) (v : Value) : (M.setCell ⟨g', k, none⟩ v).heap[g]? = M.heap[g]? := by
  have h' : ¬ g' = g := fun e => h e.symm
  simp [World.setCell, Array.getElem?_modify, h']
theorem heap_sets_other {g g' : Nat} (h : g ≠ g') : ∀ (vs : List Value) (k : Nat) (M : World), (M.setCells g' k vs).heap[g]? = M.heap[g]?
  | [], _, _ => rfl
  | v :: vs, k, M => by rw [World.setCells, heap_sets_other h vs (k + 1), heap_set_other h]
theorem heap_sets4 {M : World} {g e : Nat} {x0 x1 x2 x3 : Value} {fr : Nat × Nat} (h : M.heap[g]? = some (.cells #[x0, x1, x2, x3] e fr)) (a b c d : Value) : (M.setCells g 0 [a, b, c, d]).heap[g]? = some (.cells #[a, b, c, d] e fr) := by
  simp only [World.setCells]
  rw [heap_set (heap_set (heap_set (heap_set h 0 a) (0 + 1) b) (0 + 1 + 1) c) (0 + 1 + 1 + 1) d]
  rfl

/-- the cells of a place without keys: what stands in Usable and Hashes when the places of pre were gone over -/
def useL (l : List Int) (pre : List (Fin 4)) : List Bool := (List.range 4).map fun k => if k ∈ pre.map Fin.val then usableB (placeL l k) else false
def hshL (l : List Int) (pre : List (Fin 4)) : List (List UInt8) := (List.range 4).map fun k => if k ∈ pre.map Fin.val then hashL ((placeL l k).drop 4) else []

theorem useL_snoc (l : List Int) (pre : List (Fin 4)) (x : Fin 4) : useL l (pre ++ [x]) = (useL l pre).set x.1 (usableB (placeL l x.1)) := by
  apply List.ext_getElem?
  intro j
  rw [List.getElem?_set]
  unfold useL
  simp only [List.getElem?_map, List.length_map, List.length_range, List.map_append, List.map_cons, List.map_nil, List.mem_append, List.mem_singleton]
  have hx := x.2
  by_cases hj : j < 4
  · rw [List.getElem?_range hj]
    by_cases he : x.1 = j
    · subst he; simp [hx]
    · have he' : ¬ j = x.1 := fun h => he h.symm
      simp [he, he']
  · have : ¬ x.1 = j := by omega
    rw [List.getElem?_eq_none (by simpa using hj)]
    simp [this]
theorem hshL_snoc (l : List Int) (pre : List (Fin 4)) (x : Fin 4) : hshL l (pre ++ [x]) = (hshL l pre).set x.1 (hashL ((placeL l x.1).drop 4)) := by
  apply List.ext_getElem?
  intro j
  rw [List.getElem?_set]
  unfold hshL
  simp only [List.getElem?_map, List.length_map, List.length_range, List.map_append, List.map_cons, List.map_nil, List.mem_append, List.mem_singleton]
  have hx := x.2
  by_cases hj : j < 4
  · rw [List.getElem?_range hj]
    by_cases he : x.1 = j
    · subst he; simp [hx]
    · have he' : ¬ j = x.1 := fun h => he h.symm
      simp [he, he']
  · have : ¬ x.1 = j := by omega
    rw [List.getElem?_eq_none (by simpa using hj)]
    simp [this]
theorem useL_nil (l : List Int) : useL l [] = [false, false, false, false] := rfl
theorem hshL_nil (l : List Int) : hshL l [] = [[], [], [], []] := rfl
theorem useL_len (l : List Int) (pre : List (Fin 4)) : (useL l pre).length = 4 := by simp [useL]
theorem hshL_len (l : List Int) (pre : List (Fin 4)) : (hshL l pre).length = 4 := by simp [hshL]
theorem useL_all (l : List Int) : useL l [0, 1, 2, 3] = (List.range 4).map fun k => usableB (placeL l k) := rfl
theorem hshL_all (l : List Int) : hshL l [0, 1, 2, 3] = (List.range 4).map fun k => hashL ((placeL l k).drop 4) := rfl

/-- Read's memory: the two results' blocks, and that of f, of its Usable, of its Hashes -/
structure Rd (w M : World) (g7 gu gh : Nat) (s le : Int) (U : List Bool) (H : List (List UInt8)) : Prop where
  below : Below w.heap.size w M
  l7 : w.heap.size + 2 ≤ g7
  lu : w.heap.size + 2 ≤ gu
  lh : w.heap.size + 2 ≤ gh
  uh : gu ≠ gh
  u7 : gu ≠ g7
  h7 : gh ≠ g7
  b0 : M.heap[w.heap.size]? = some (.cells (fusV 0 (.slice none 0 0) 0 (.slice none 0 0)).toArray 27 (0, 0))
  b1 : M.heap[w.heap.size + 1]? = some (.cells #[.int .i64 0] 28 (0, 0))
  b7 : M.heap[g7]? = some (.cells (fusV s (.slice (some ⟨gu, 0, none⟩) 4 4) le (.slice (some ⟨gh, 0, none⟩) 4 4)).toArray 27 (0, 0))
  bu : M.heap[gu]? = some (.cells (boolsV U).toArray 4 (0, 0))
  bh : M.heap[gh]? = some (.cells (textsV H).toArray 9 (0, 0))
  lenU : U.length = 4
  lenH : H.length = 4

theorem Rd.keptBy {w M M' : World} {g7 gu gh : Nat} {s le : Int} {U : List Bool} {H : List (List UInt8)} (f : Rd w M g7 gu gh s le U H) (hb : Below w.heap.size M M') (h : ∀ k o, w.heap.size ≤ k → M.heap[k]? = some o → o.isCells = true → M'.heap[k]? = some o) : Rd w M' g7 gu gh s le U H := by
  have l7 := f.l7
  have lu := f.lu
  have lh := f.lh
  exact ⟨f.below.trans hb, f.l7, f.lu, f.lh, f.uh, f.u7, f.h7, h _ _ (by omega) f.b0 rfl, h _ _ (by omega) f.b1 rfl, h _ _ (by omega) f.b7 rfl, h _ _ (by omega) f.bu rfl, h _ _ (by omega) f.bh rfl, f.lenU, f.lenH⟩
theorem heap_lt {M : World} {g : Nat} {o : Obj} (h : M.heap[g]? = some o) : g < M.heap.size := (Array.getElem?_eq_some_iff.1 h).1
theorem Rd.calm {w M M' : World} {g7 gu gh : Nat} {s le : Int} {U : List Bool} {H : List (List UInt8)} (f : Rd w M g7 gu gh s le U H) (hb : Below M.heap.size M M') : Rd w M' g7 gu gh s le U H :=
  f.keptBy (hb.mono f.below.size) fun k _ _ hk _ => (hb.block k (heap_lt hk)).trans hk
theorem Rd.drewN {w M : World} {g7 gu gh : Nat} {s le : Int} {U : List Bool} {H : List (List UInt8)} (f : Rd w M g7 gu gh s le U H) (n : Nat) : Rd w (M.drewN n) g7 gu gh s le U H :=
  ⟨⟨f.below.os, f.below.tape, f.below.output, f.below.size, f.below.block⟩, f.l7, f.lu, f.lh, f.uh, f.u7, f.h7, f.b0, f.b1, f.b7, f.bu, f.bh, f.lenU, f.lenH⟩
/-- it abides the turns of what is no cells -/
theorem Rd.own {w M M' : World} {g7 gu gh : Nat} {s le : Int} {U : List Bool} {H : List (List UInt8)} {row : Option Nat} {B : Nat} (f : Rd w M g7 gu gh s le U H) (hB : w.heap.size ≤ B) (hg : M.grownBy M' row) (hr : ∀ r, row = some r → B ≤ r ∧ ∃ o : Obj, M.heap[r]? = some o ∧ o.isCells = false) : Rd w M' g7 gu gh s le U H :=
  f.keptBy ((Below.refl _ M).grown hg f.below.size fun k hk => Nat.le_trans hB (hr k hk).1) fun k o _ hk ho => (hg.block k (heap_lt hk) fun e => by
    obtain ⟨_, o', h1, h2⟩ := hr k e.symm
    rw [hk] at h1
    cases h1
    rw [ho] at h2
    cases h2).trans hk

theorem Rd.setU {w M : World} {g7 gu gh : Nat} {s le : Int} {U : List Bool} {H : List (List UInt8)} (f : Rd w M g7 gu gh s le U H) (k : Nat) (b : Bool) : Rd w (M.setCell ⟨gu, k, none⟩ (.bool b)) g7 gu gh s le (U.set k b) H := by
  have l7 := f.l7
  have lu := f.lu
  have lh := f.lh
  refine ⟨f.below.setCell (p := ⟨gu, k, none⟩) (by show w.heap.size ≤ gu; omega) _, f.l7, f.lu, f.lh, f.uh, f.u7, f.h7, ?_, ?_, ?_, ?_, ?_, by simpa using f.lenU, f.lenH⟩
  · rw [heap_set_other (by omega)]; exact f.b0
  · rw [heap_set_other (by omega)]; exact f.b1
  · rw [heap_set_other (fun e => f.u7 e.symm)]; exact f.b7
  · rw [heap_set f.bu]
    simp [boolsV, List.map_set]
  · rw [heap_set_other (fun e => f.uh e.symm)]; exact f.bh
theorem Rd.setH {w M : World} {g7 gu gh : Nat} {s le : Int} {U : List Bool} {H : List (List UInt8)} (f : Rd w M g7 gu gh s le U H) (k : Nat) (x : List UInt8) : Rd w (M.setCell ⟨gh, k, none⟩ (.string ⟨x.toArray⟩)) g7 gu gh s le U (H.set k x) := by
  have l7 := f.l7
  have lu := f.lu
  have lh := f.lh
  refine ⟨f.below.setCell (p := ⟨gh, k, none⟩) (by show w.heap.size ≤ gh; omega) _, f.l7, f.lu, f.lh, f.uh, f.u7, f.h7, ?_, ?_, ?_, ?_, ?_, f.lenU, by simpa using f.lenH⟩
  · rw [heap_set_other (by omega)]; exact f.b0
  · rw [heap_set_other (by omega)]; exact f.b1
  · rw [heap_set_other (fun e => f.h7 e.symm)]; exact f.b7
  · rw [heap_set_other f.uh]; exact f.bu
  · rw [heap_set f.bh]
    simp [textsV, List.map_set]

theorem keeps_set (B : Nat) (M : World) (g k : Nat) (v : Value) : KeepsFrom B M (M.setCell ⟨g, k, none⟩ v) := (KeepsOthers.setCell M ⟨g, k, none⟩ v).from B
theorem keeps_below {B : Nat} {M M' : World} (h : Below M.heap.size M M') : KeepsFrom B M M' := ⟨h.size, fun k _ _ hk _ => (h.block k (heap_lt hk)).trans hk⟩

end Go.Proofs.Ytkmoglhgkcnalaa
