/- What fuses say, in the making (the reference's Fuses): memory. -/
import Derived.Test.YtkmoglhgkcnalaaFRef
import Derived.Test.YtkmoglhgkcnalaaFBuild
namespace Go.Proofs.Ytkmoglhgkcnalaa
open Go.RowKit

theorem there_set {w : World} {b o n : Nat} (h : w.there b o n) (b' k : Nat) (v : Value) : (w.setCell ⟨b', k, none⟩ v).there b o n := World.there_setCells h b' k [v]

theorem own_apart {M : World} {B B' e e' sz sz' n n' : Nat} {v v' : Value} {xs xs' : List Value} (h : M.ownsRow B e sz v n xs) (h' : M.ownsRow B' e' sz' v' n' xs') (hne : e ≠ e') : v.ownBlock = none ∨ v.ownBlock ≠ v'.ownBlock := by
  rcases h.2 with ⟨rfl, _⟩ | ⟨g, cap, cur, rfl, _, hg, _⟩
  · exact .inl rfl
  · refine .inr fun heq => ?_
    rcases h'.2 with ⟨rfl, _⟩ | ⟨g', cap', cur', rfl, _, hg', _⟩
    · simp [Value.ownBlock] at heq
    · simp only [Value.ownBlock, Option.some.injEq] at heq
      subst heq
      rw [hg] at hg'
      simp only [Option.some.injEq, Obj.cells.injEq] at hg'
      exact hne hg'.2.1

def boolsV (U : List Bool) : List Value := U.map Value.bool
def textsV (H : List (List UInt8)) : List Value := H.map fun l => Value.string ⟨l.toArray⟩

/-- the answer f of the reference's Fuses in the making, and the room of the result -/
structure Fus (w M : World) (s le : Int) (u h : Value) (U : List Bool) (H : List (List UInt8)) : Prop where
  below : Below w.heap.size w M
  size : w.heap.size + 2 ≤ M.heap.size
  res : M.there w.heap.size 0 4
  c0 : M.cell? ⟨w.heap.size + 1, 0, none⟩ = some (.int .i64 s)
  c1 : M.cell? ⟨w.heap.size + 1, 1, none⟩ = some u
  c2 : M.cell? ⟨w.heap.size + 1, 2, none⟩ = some (.int .i64 le)
  c3 : M.cell? ⟨w.heap.size + 1, 3, none⟩ = some h
  th : M.there (w.heap.size + 1) 0 4
  ou : M.ownsRow (w.heap.size + 2) 4 1 u U.length (boolsV U)
  oh : M.ownsRow (w.heap.size + 2) 9 1 h H.length (textsV H)

theorem own_calm {M M' : World} {B e sz n : Nat} {v : Value} {xs : List Value} (h : M.ownsRow B e sz v n xs) (hb : Below M.heap.size M M') : M'.ownsRow B e sz v n xs :=
  World.ownsRow.kept h (row := none) ⟨hb.os, hb.tape, hb.output, hb.size, fun k hk _ => hb.block k hk⟩ (by cases hv : v.ownBlock with
    | none => exact .inl rfl
    | some k => exact .inr (by simp))
theorem Fus.calm {w M M' : World} {s le : Int} {u h : Value} {U : List Bool} {H : List (List UInt8)} (f : Fus w M s le u h U H) (hb : Below M.heap.size M M') : Fus w M' s le u h U H := by
  have hsz := f.size
  have hs' := hb.size
  exact ⟨f.below.trans (hb.mono (by omega)), by omega, there_below hb (by omega) f.res, by rw [hb.cell (p := ⟨w.heap.size + 1, 0, none⟩) (by show w.heap.size + 1 < _; omega)]; exact f.c0,
    by rw [hb.cell (p := ⟨w.heap.size + 1, 1, none⟩) (by show w.heap.size + 1 < _; omega)]; exact f.c1, by rw [hb.cell (p := ⟨w.heap.size + 1, 2, none⟩) (by show w.heap.size + 1 < _; omega)]; exact f.c2,
    by rw [hb.cell (p := ⟨w.heap.size + 1, 3, none⟩) (by show w.heap.size + 1 < _; omega)]; exact f.c3, there_below hb (by omega) f.th, own_calm f.ou hb, own_calm f.oh hb⟩

theorem grown_set (w : World) (b o : Nat) (v : Value) : w.grownBy (w.setCell ⟨b, o, none⟩ v) (some b) :=
  ⟨rfl, rfl, rfl, by simp [World.setCell], fun k _ hr => Below.heap_setCell _ _ _ _ (fun e => hr (by rw [e]))⟩
theorem own_set {M : World} {B e sz n c j : Nat} {v : Value} {xs : List Value} (h : M.ownsRow B e sz v n xs) (hc : c < B) (u : Value) : (M.setCell ⟨c, j, none⟩ u).ownsRow B e sz v n xs :=
  World.ownsRow.kept h (grown_set _ _ _ _) (by cases hv : v.ownBlock with
    | none => exact .inl rfl
    | some k => exact .inr (by intro e; injection e with e; have := (World.ownsRow.lt h k hv).1; omega))

/-- behind an append to a row of its own, ahead of the store -/
theorem Fus.grown {w M M2 : World} {s le : Int} {u h : Value} {U : List Bool} {H : List (List UInt8)} {o : Obj} {row : Option Nat} (f : Fus w M s le u h U H) (hrow : ∀ i, i < w.heap.size + 2 → some i ≠ row) (hg : (M.alloc o).grownBy M2 row) :
    Below w.heap.size w M2 ∧ w.heap.size + 2 ≤ M2.heap.size ∧ (∀ b j, b < w.heap.size + 2 → M2.cell? ⟨b, j, none⟩ = M.cell? ⟨b, j, none⟩) ∧ (∀ b j, b < w.heap.size + 2 → M2.frozen? ⟨b, j, none⟩ = M.frozen? ⟨b, j, none⟩) := by
  have hs := f.size
  have hs2 := hg.size
  rw [World.size_alloc] at hs2
  have hbl : ∀ i, i < w.heap.size + 2 → M2.heap[i]? = M.heap[i]? := fun i hi => by
    rw [hg.block i (by rw [World.size_alloc]; omega) (hrow i hi)]
    exact Below.heap_alloc M o i (by omega)
  exact ⟨f.below.trans ⟨hg.os, hg.tape, hg.output, by omega, fun k hk => hbl k (by omega)⟩, by omega, fun b j hb => World.cell?_of_block (w := M) (hbl b hb), fun b j hb => World.frozen?_of_block (w := M) (hbl b hb)⟩

theorem Fus.appU {w M M2 : World} {s le : Int} {u u' h : Value} {U U' : List Bool} {H : List (List UInt8)} {o : Obj} (f : Fus w M s le u h U H) (hg : (M.alloc o).grownBy M2 u.ownBlock) (ho : M2.ownsRow (w.heap.size + 2) 4 1 u' U'.length (boolsV U')) :
    (M2.cell? ⟨w.heap.size + 1, 1, none⟩ = some u ∧ M2.frozen? ⟨w.heap.size + 1, 1, none⟩ = false) ∧ Fus w (M2.setCell ⟨w.heap.size + 1, 1, none⟩ u') s le u' h U' H := by
  obtain ⟨h1, h2, h3, h4⟩ := f.grown (fun i hi e => by have := (World.ownsRow.lt f.ou i e.symm).1; omega) hg
  have hc := h3 (w.heap.size + 1) 1 (by omega)
  refine ⟨⟨by rw [hc]; exact f.c1, by rw [h4 _ _ (by omega)]; exact (f.th 1 (by omega)).2⟩, h1.setCell (p := ⟨w.heap.size + 1, 1, none⟩) (by show w.heap.size ≤ w.heap.size + 1; omega) _, by simpa [World.setCell] using h2, ?_, ?_, ?_, ?_, ?_, ?_, own_set ho (by omega) _, ?_⟩
  · exact there_set (fun j hj => by rw [h3 _ _ (by omega), h4 _ _ (by omega)]; exact f.res j hj) _ _ _
  · rw [World.cell?_setCell_other _ _ _ _ (by simp), h3 _ _ (by omega)]; exact f.c0
  · exact World.cell?_setCell_same _ _ _ (hc.trans f.c1)
  · rw [World.cell?_setCell_other _ _ _ _ (by simp), h3 _ _ (by omega)]; exact f.c2
  · rw [World.cell?_setCell_other _ _ _ _ (by simp), h3 _ _ (by omega)]; exact f.c3
  · exact there_set (fun j hj => by rw [h3 _ _ (by omega), h4 _ _ (by omega)]; exact f.th j hj) _ _ _
  · exact own_set (World.ownsRow.kept (World.ownsRow.alloc f.oh o) hg (own_apart f.oh f.ou (by decide))) (by omega) _

theorem Fus.appH {w M M2 : World} {s le : Int} {u h h' : Value} {U : List Bool} {H H' : List (List UInt8)} {o : Obj} (f : Fus w M s le u h U H) (hg : (M.alloc o).grownBy M2 h.ownBlock) (ho : M2.ownsRow (w.heap.size + 2) 9 1 h' H'.length (textsV H')) :
    (M2.cell? ⟨w.heap.size + 1, 3, none⟩ = some h ∧ M2.frozen? ⟨w.heap.size + 1, 3, none⟩ = false) ∧ Fus w (M2.setCell ⟨w.heap.size + 1, 3, none⟩ h') s le u h' U H' := by
  obtain ⟨h1, h2, h3, h4⟩ := f.grown (fun i hi e => by have := (World.ownsRow.lt f.oh i e.symm).1; omega) hg
  have hc := h3 (w.heap.size + 1) 3 (by omega)
  refine ⟨⟨by rw [hc]; exact f.c3, by rw [h4 _ _ (by omega)]; exact (f.th 3 (by omega)).2⟩, h1.setCell (p := ⟨w.heap.size + 1, 3, none⟩) (by show w.heap.size ≤ w.heap.size + 1; omega) _, by simpa [World.setCell] using h2, ?_, ?_, ?_, ?_, ?_, ?_, ?_, own_set ho (by omega) _⟩
  · exact there_set (fun j hj => by rw [h3 _ _ (by omega), h4 _ _ (by omega)]; exact f.res j hj) _ _ _
  · rw [World.cell?_setCell_other _ _ _ _ (by simp), h3 _ _ (by omega)]; exact f.c0
  · rw [World.cell?_setCell_other _ _ _ _ (by simp), h3 _ _ (by omega)]; exact f.c1
  · rw [World.cell?_setCell_other _ _ _ _ (by simp), h3 _ _ (by omega)]; exact f.c2
  · exact World.cell?_setCell_same _ _ _ (hc.trans f.c3)
  · exact there_set (fun j hj => by rw [h3 _ _ (by omega), h4 _ _ (by omega)]; exact f.th j hj) _ _ _
  · exact own_set (World.ownsRow.kept (World.ownsRow.alloc f.ou o) hg (own_apart f.ou f.oh (by decide))) (by omega) _

end Go.Proofs.Ytkmoglhgkcnalaa
