/- The law FusesRead, walked. -/
import Derived.Test.YtkmoglhgkcnalaaFLaw
namespace Go.Proofs.Ytkmoglhgkcnalaa
open Go.RowKit

/-- the law's memory: what was handed in; a, d, w, each with its lists -/
structure LW (w M : World) (l : List Int) (S LE : Int) (n1 gA gD gW : Nat) (Ua : List Bool) (Ha : List (List UInt8)) (U : List Bool) (H : List (List UInt8)) (ua ha ud hd uw hw : Value) : Prop where
  below : Below w.heap.size w M
  hh : M.rangeAt w.heap.size 0 (cellsI (l ++ [77, 77, 77, 77]))
  o1 : w.heap.size < n1
  o2 : n1 ≤ gA
  o3 : gA < gD
  o4 : gD < gW
  o5 : gW < M.heap.size
  a : Ans M n1 gA Ua Ha ua ha
  d : Ans M (gA + 1) gD U H ud hd
  r : Ans M (gD + 1) gW U H uw hw
  bA : M.heap[gA]? = some (.cells #[.int .i64 S, ua, .int .i64 LE, ha] 27 (0, 0))
  bD : M.heap[gD]? = some (.cells #[.int .i64 S, ud, .int .i64 LE, hd] 27 (0, 0))
  bW : M.heap[gW]? = some (.cells #[.int .i64 S, uw, .int .i64 LE, hw] 27 (0, 0))

theorem LW.calm {w M M' : World} {l : List Int} {S LE : Int} {n1 gA gD gW : Nat} {Ua : List Bool} {Ha : List (List UInt8)} {U : List Bool} {H : List (List UInt8)} {ua ha ud hd uw hw : Value} (f : LW w M l S LE n1 gA gD gW Ua Ha U H ua ha ud hd uw hw) (hb : Below M.heap.size M M') :
    LW w M' l S LE n1 gA gD gW Ua Ha U H ua ha ud hd uw hw := by
  have o1 := f.o1
  have o2 := f.o2
  have o3 := f.o3
  have o4 := f.o4
  have o5 := f.o5
  have hs := hb.size
  exact ⟨f.below.trans (hb.mono (by omega)), range_below hb (by omega) f.hh, o1, o2, o3, o4, by omega, f.a.calm hb (by omega), f.d.calm hb (by omega), f.r.calm hb (by omega), (hb.block _ (by omega)).trans f.bA, (hb.block _ (by omega)).trans f.bD, (hb.block _ (by omega)).trans f.bW⟩

theorem cells4 {M : World} {g t : Nat} {v0 v1 v2 v3 : Value} {fr : Nat × Nat} (h : M.heap[g]? = some (.cells #[v0, v1, v2, v3] t fr)) : M.cell? ⟨g, 0, none⟩ = some v0 ∧ M.cell? ⟨g, 1, none⟩ = some v1 ∧ M.cell? ⟨g, 2, none⟩ = some v2 ∧ M.cell? ⟨g, 3, none⟩ = some v3 := by
  refine ⟨?_, ?_, ?_, ?_⟩ <;> rw [World.cell?] <;> simp only [h] <;> rfl

theorem cell_two_new (w : World) (x y : Value) (t : TypeId) : ∀ j u, [x, y][j]? = some u → (w.alloc (.cells #[x, y] t)).cell? ((⟨w.heap.size, 0, none⟩ : Addr).add j) = some u := by
  intro j u hj
  match j, hj with
  | 0, hj => simp at hj; subst hj; show World.cell? _ ⟨w.heap.size, 0 + 0, none⟩ = _; rw [World.cell?, World.alloc_heap_new]; rfl
  | 1, hj => simp at hj; subst hj; show World.cell? _ ⟨w.heap.size, 0 + 1, none⟩ = _; rw [World.cell?, World.alloc_heap_new]; rfl
/-- the first lists in the writing -/
def mineB (k : Nat) (U : List Bool) : List Bool := List.replicate k true ++ U.drop k
def mineT : List UInt8 := [109, 105, 110, 101]
def mineH (k : Nat) (H : List (List UInt8)) : List (List UInt8) := List.replicate k mineT ++ H.drop k
theorem mineB_set {k : Nat} {U : List Bool} (h : k < U.length) : (mineB k U).set k true = mineB (k + 1) U := by
  rw [mineB, mineB, List.set_append_right _ _ (by simp), List.length_replicate, Nat.sub_self, List.drop_eq_getElem_cons h, List.set_cons_zero, List.replicate_succ', List.append_assoc]
  rfl
theorem mineH_set {k : Nat} {H : List (List UInt8)} (h : k < H.length) : (mineH k H).set k mineT = mineH (k + 1) H := by
  rw [mineH, mineH, List.set_append_right _ _ (by simp), List.length_replicate, Nat.sub_self, List.drop_eq_getElem_cons h, List.set_cons_zero, List.replicate_succ', List.append_assoc]
  rfl
theorem mineB_len {k : Nat} {U : List Bool} (h : k ≤ U.length) : (mineB k U).length = U.length := by simp [mineB]; omega
theorem mineH_len {k : Nat} {H : List (List UInt8)} (h : k ≤ H.length) : (mineH k H).length = H.length := by simp [mineH]; omega
theorem mineB_all (U : List Bool) : mineB U.length U = List.replicate U.length true := by simp [mineB]
theorem mineH_all (H : List (List UInt8)) : mineH H.length H = List.replicate H.length mineT := by simp [mineH]

theorem own_write {M : World} {B e n k : Nat} {v x : Value} {xs : List Value} (h : M.ownsRow B e 1 v n xs) (hk : k < n) {g : Nat} (hg : v.ownBlock = some g) : (M.setCell ⟨g, k, none⟩ x).ownsRow B e 1 v n (xs.set k x) := by
  rcases h.2 with ⟨rfl, h0⟩ | ⟨g', cap, cur, rfl, hb, hc, h1, h2, h3, h4⟩
  · omega
  · simp only [Value.ownBlock, Option.some.injEq] at hg
    subst hg
    have hl := h.1
    refine ⟨by simpa using hl, .inr ⟨g', cap, cur.setIfInBounds k x, rfl, hb, heap_set hc k x, h1, h2, by simpa using h3, ?_⟩⟩
    rw [← h4, Array.toList_setIfInBounds, List.take_set]
theorem own_cell {M : World} {B e n k : Nat} {v : Value} {xs : List Value} (h : M.ownsRow B e 1 v n xs) (hk : k < n) : ∃ g cap, v = .slice (some ⟨g, 0, none⟩) n cap ∧ (∃ x, xs[k]? = some x ∧ M.cell? ⟨g, k, none⟩ = some x) ∧ M.frozen? ⟨g, k, none⟩ = false := by
  rcases h.2 with ⟨rfl, h0⟩ | ⟨g, cap, cur, rfl, hb, hc, h1, h2, h3, h4⟩
  · omega
  · rw [Nat.mul_one] at h3 h4
    subst h4
    have hsz : cur.toList.length = cap := by rw [Array.length_toList]; exact h3
    refine ⟨g, cap, rfl, ⟨cur[k]'(by omega), ?_, ?_⟩, ?_⟩
    · rw [List.getElem?_take, if_pos hk, Array.getElem?_toList, Array.getElem?_eq_getElem (by omega)]
    · rw [World.cell?]
      simp only [hc]
      rw [if_neg (by simp), Array.getElem?_eq_getElem (by omega)]
    · rw [World.frozen?]
      simp [hc]

theorem LW.setU {w M : World} {l : List Int} {S LE : Int} {n1 gA gD gW : Nat} {Ua : List Bool} {Ha : List (List UInt8)} {U : List Bool} {H : List (List UInt8)} {ua ha ud hd uw hw : Value} (f : LW w M l S LE n1 gA gD gW Ua Ha U H ua ha ud hd uw hw) {k g : Nat} (hk : k < Ua.length) (hg : ua.ownBlock = some g) : LW w (M.setCell ⟨g, k, none⟩ (.bool true)) l S LE n1 gA gD gW (Ua.set k true) Ha U H ua ha ud hd uw hw := by
  have o1 := f.o1
  have o2 := f.o2
  have o3 := f.o3
  have o4 := f.o4
  have o5 := f.o5
  have hgb := f.a.bu g hg
  have hne : ∀ k', k' ≠ g → (M.setCell ⟨g, k, none⟩ (.bool true)).heap[k']? = M.heap[k']? := fun k' h => heap_set_other h _ _
  refine ⟨f.below.setCell (p := ⟨g, k, none⟩) (by show w.heap.size ≤ g; omega) _, ?_, o1, o2, o3, o4, by rw [World.size_setCell]; exact o5, ⟨?_, own_heap f.a.oh fun g' hg' => hne g' fun e => ?_, f.a.bu, f.a.bh⟩, f.d.persist fun k' h1 h2 => hne k' (by omega), f.r.persist fun k' h1 h2 => hne k' (by omega), (hne _ (by omega)).trans f.bA, (hne _ (by omega)).trans f.bD, (hne _ (by omega)).trans f.bW⟩
  · intro j v hv
    have e := hne w.heap.size (by omega)
    have h := f.hh j v hv
    rw [World.cell?] at h ⊢
    simp only [e]
    exact h
  · have := own_write (x := .bool true) f.a.ou hk hg
    rw [List.length_set, boolsV, List.map_set]
    exact this
  · rcases own_apart f.a.oh f.a.ou (by decide) with h | h
    · rw [h] at hg'; cases hg'
    · exact h (by rw [hg', hg, e])
theorem LW.setH {w M : World} {l : List Int} {S LE : Int} {n1 gA gD gW : Nat} {Ua : List Bool} {Ha : List (List UInt8)} {U : List Bool} {H : List (List UInt8)} {ua ha ud hd uw hw : Value} (f : LW w M l S LE n1 gA gD gW Ua Ha U H ua ha ud hd uw hw) {k g : Nat} (hk : k < Ha.length) (hg : ha.ownBlock = some g) : LW w (M.setCell ⟨g, k, none⟩ (.string ⟨#[109, 105, 110, 101]⟩)) l S LE n1 gA gD gW Ua (Ha.set k mineT) U H ua ha ud hd uw hw := by
  have o1 := f.o1
  have o2 := f.o2
  have o3 := f.o3
  have o4 := f.o4
  have o5 := f.o5
  have hgb := f.a.bh g hg
  have hne : ∀ k', k' ≠ g → (M.setCell ⟨g, k, none⟩ (.string ⟨#[109, 105, 110, 101]⟩)).heap[k']? = M.heap[k']? := fun k' h => heap_set_other h _ _
  refine ⟨f.below.setCell (p := ⟨g, k, none⟩) (by show w.heap.size ≤ g; omega) _, ?_, o1, o2, o3, o4, by rw [World.size_setCell]; exact o5, ⟨own_heap f.a.ou fun g' hg' => hne g' fun e => ?_, ?_, f.a.bu, f.a.bh⟩, f.d.persist fun k' h1 h2 => hne k' (by omega), f.r.persist fun k' h1 h2 => hne k' (by omega), (hne _ (by omega)).trans f.bA, (hne _ (by omega)).trans f.bD, (hne _ (by omega)).trans f.bW⟩
  · intro j v hv
    have e := hne w.heap.size (by omega)
    have h := f.hh j v hv
    rw [World.cell?] at h ⊢
    simp only [e]
    exact h
  · rcases own_apart f.a.ou f.a.oh (by decide) with h | h
    · rw [h] at hg'; cases hg'
    · exact h (by rw [hg', hg, e])
  · have := own_write (x := .string ⟨#[109, 105, 110, 101]⟩) f.a.oh hk hg
    rw [List.length_set, textsV, List.map_set]
    exact this

/-- .. behind the first append -/
structure LY (w M : World) (l : List Int) (S LE : Int) (n1 gA gD gW : Nat) (U : List Bool) (H : List (List UInt8)) (ua ha ud hd uw hw x : Value) : Prop where
  below : Below w.heap.size w M
  hh : M.rangeAt w.heap.size 0 (cellsI (l ++ [77, 77, 77, 77]))
  o1 : w.heap.size < n1
  o2 : n1 ≤ gA
  o3 : gA < gD
  o4 : gD < gW
  o5 : gW < M.heap.size
  oh : M.ownsRow n1 9 1 ha H.length (textsV (List.replicate H.length mineT))
  bh : ∀ g, ha.ownBlock = some g → n1 ≤ g ∧ g < gA
  ox : M.ownsRow n1 4 1 x (U.length + 2) (boolsV (List.replicate (U.length + 2) true))
  d : Ans M (gA + 1) gD U H ud hd
  r : Ans M (gD + 1) gW U H uw hw
  bA : M.heap[gA]? = some (.cells #[.int .i64 S, ua, .int .i64 LE, ha] 27 (0, 0))
  bD : M.heap[gD]? = some (.cells #[.int .i64 S, ud, .int .i64 LE, hd] 27 (0, 0))
  bW : M.heap[gW]? = some (.cells #[.int .i64 S, uw, .int .i64 LE, hw] 27 (0, 0))
/-- .. behind both -/
structure LX (w M : World) (l : List Int) (S LE : Int) (gA gD gW : Nat) (U : List Bool) (H : List (List UInt8)) (ud hd uw hw x y : Value) : Prop where
  below : Below w.heap.size w M
  hh : M.rangeAt w.heap.size 0 (cellsI (l ++ [77, 77, 77, 77]))
  o1 : w.heap.size < gA
  o3 : gA < gD
  o4 : gD < gW
  o5 : gW < M.heap.size
  ox : M.ownsRow 0 4 1 x (U.length + 2) (boolsV (List.replicate (U.length + 2) true))
  oy : M.ownsRow 0 9 1 y (H.length + 2) (textsV (List.replicate (H.length + 2) mineT))
  d : Ans M (gA + 1) gD U H ud hd
  r : Ans M (gD + 1) gW U H uw hw
  bD : M.heap[gD]? = some (.cells #[.int .i64 S, ud, .int .i64 LE, hd] 27 (0, 0))
  bW : M.heap[gW]? = some (.cells #[.int .i64 S, uw, .int .i64 LE, hw] 27 (0, 0))

theorem range_keep {M M' : World} {b o : Nat} {L : List Value} (e : M'.heap[b]? = M.heap[b]?) (h : M.rangeAt b o L) : M'.rangeAt b o L := fun j v hv => by
  have h1 := h j v hv
  rw [World.cell?] at h1 ⊢
  simp only [e]
  exact h1
theorem bools_two (n : Nat) : boolsV (List.replicate n true) ++ [.bool true, .bool true] = boolsV (List.replicate (n + 2) true) := by
  rw [boolsV, boolsV, List.map_replicate, List.map_replicate, ← List.replicate_append_replicate]; rfl
theorem texts_two (n : Nat) : textsV (List.replicate n mineT) ++ [.string ⟨#[109, 105, 110, 101]⟩, .string ⟨#[109, 105, 110, 101]⟩] = textsV (List.replicate (n + 2) mineT) := by
  rw [textsV, textsV, List.map_replicate, List.map_replicate, ← List.replicate_append_replicate]; rfl

theorem LW.append {w M M2 : World} {l : List Int} {S LE : Int} {n1 gA gD gW : Nat} {U : List Bool} {H : List (List UInt8)} {ua ha ud hd uw hw x : Value} {o : Obj} (f : LW w M l S LE n1 gA gD gW (mineB U.length U) (mineH H.length H) U H ua ha ud hd uw hw)
    (hx : M2.ownsRow n1 4 1 x (U.length + 2) (boolsV (List.replicate U.length true) ++ [.bool true, .bool true])) (hg : (M.alloc o).grownBy M2 ua.ownBlock) : LY w M2 l S LE n1 gA gD gW U H ua ha ud hd uw hw x := by
  have o1 := f.o1
  have o2 := f.o2
  have o3 := f.o3
  have o4 := f.o4
  have o5 := f.o5
  have hsz := hg.size
  rw [World.size_alloc] at hsz
  have hk : ∀ k, k < M.heap.size → some k ≠ ua.ownBlock → M2.heap[k]? = M.heap[k]? := fun k h1 h2 => (hg.block k (by rw [World.size_alloc]; omega) h2).trans (Below.heap_alloc _ _ _ h1)
  have hk2 : ∀ k, k < M.heap.size → (k < n1 ∨ gA ≤ k) → M2.heap[k]? = M.heap[k]? := fun k h1 h2 => hk k h1 fun e => by have := f.a.bu k e.symm; omega
  have hoh := f.a.oh
  rw [mineH_all, List.length_replicate] at hoh
  refine ⟨f.below.trans ⟨hg.os, hg.tape, hg.output, by omega, fun k h => hk2 k (by omega) (by omega)⟩, range_keep (hk2 _ (by omega) (by omega)) f.hh, o1, o2, o3, o4, by omega, own_heap hoh fun g hgg => hk g (World.ownsRow.lt hoh g hgg).2 fun e => ?_, f.a.bh, bools_two U.length ▸ hx,
    f.d.persist fun k h1 h2 => hk2 k (by omega) (by omega), f.r.persist fun k h1 h2 => hk2 k (by omega) (by omega), (hk2 _ (by omega) (by omega)).trans f.bA, (hk2 _ (by omega) (by omega)).trans f.bD, (hk2 _ (by omega) (by omega)).trans f.bW⟩
  rcases own_apart f.a.oh f.a.ou (by decide) with h | h
  · rw [h] at hgg; cases hgg
  · exact h (hgg.trans e)
theorem LY.append {w M M2 : World} {l : List Int} {S LE : Int} {n1 gA gD gW : Nat} {U : List Bool} {H : List (List UInt8)} {ua ha ud hd uw hw x y : Value} {o : Obj} (f : LY w M l S LE n1 gA gD gW U H ua ha ud hd uw hw x)
    (hy : M2.ownsRow n1 9 1 y (H.length + 2) (textsV (List.replicate H.length mineT) ++ [.string ⟨#[109, 105, 110, 101]⟩, .string ⟨#[109, 105, 110, 101]⟩])) (hg : (M.alloc o).grownBy M2 ha.ownBlock) : LX w M2 l S LE gA gD gW U H ud hd uw hw x y := by
  have o1 := f.o1
  have o2 := f.o2
  have o3 := f.o3
  have o4 := f.o4
  have o5 := f.o5
  have hsz := hg.size
  rw [World.size_alloc] at hsz
  have hk : ∀ k, k < M.heap.size → some k ≠ ha.ownBlock → M2.heap[k]? = M.heap[k]? := fun k h1 h2 => (hg.block k (by rw [World.size_alloc]; omega) h2).trans (Below.heap_alloc _ _ _ h1)
  have hk2 : ∀ k, k < M.heap.size → (k < n1 ∨ gA ≤ k) → M2.heap[k]? = M.heap[k]? := fun k h1 h2 => hk k h1 fun e => by have := f.bh k e.symm; omega
  refine ⟨f.below.trans ⟨hg.os, hg.tape, hg.output, by omega, fun k h => hk2 k (by omega) (by omega)⟩, range_keep (hk2 _ (by omega) (by omega)) f.hh, by omega, o3, o4, by omega, own_lo (own_heap f.ox fun g hgg => hk g (World.ownsRow.lt f.ox g hgg).2 fun e => ?_) (Nat.zero_le _), own_lo (texts_two H.length ▸ hy) (Nat.zero_le _),
    f.d.persist fun k h1 h2 => hk2 k (by omega) (by omega), f.r.persist fun k h1 h2 => hk2 k (by omega) (by omega), (hk2 _ (by omega) (by omega)).trans f.bD, (hk2 _ (by omega) (by omega)).trans f.bW⟩
  rcases own_apart f.ox f.oh (by decide) with h | h
  · rw [h] at hgg; cases hgg
  · exact h (hgg.trans e)
theorem LX.calm {w M M' : World} {l : List Int} {S LE : Int} {gA gD gW : Nat} {U : List Bool} {H : List (List UInt8)} {ud hd uw hw x y : Value} (f : LX w M l S LE gA gD gW U H ud hd uw hw x y) (hb : Below M.heap.size M M') : LX w M' l S LE gA gD gW U H ud hd uw hw x y := by
  have o1 := f.o1
  have o3 := f.o3
  have o4 := f.o4
  have o5 := f.o5
  have hs := hb.size
  exact ⟨f.below.trans (hb.mono (by omega)), range_below hb (by omega) f.hh, o1, o3, o4, by omega, own_calm f.ox hb, own_calm f.oy hb, f.d.calm hb (by omega), f.r.calm hb (by omega), (hb.block _ (by omega)).trans f.bD, (hb.block _ (by omega)).trans f.bW⟩

theorem lw_make {w M1 M2 M3 M4 : World} {l : List Int} {S LE : Int} {U : List Bool} {H : List (List UInt8)} {ua ha ud hd uw hw : Value} (hb1 : Below w.heap.size w M1) (hh : M1.rangeAt w.heap.size 0 (cellsI (l ++ [77, 77, 77, 77]))) (hs1 : w.heap.size < M1.heap.size)
    (hb2 : Below M1.heap.size M1 M2) (hA : Ans M2 M1.heap.size M2.heap.size U H ua ha)
    (hb3 : Below (M2.alloc (.cells #[.int .i64 S, ua, .int .i64 LE, ha] 27)).heap.size (M2.alloc (.cells #[.int .i64 S, ua, .int .i64 LE, ha] 27)) M3) (hD : Ans M3 (M2.alloc (.cells #[.int .i64 S, ua, .int .i64 LE, ha] 27)).heap.size M3.heap.size U H ud hd)
    (hb4 : Below (M3.alloc (.cells #[.int .i64 S, ud, .int .i64 LE, hd] 27)).heap.size (M3.alloc (.cells #[.int .i64 S, ud, .int .i64 LE, hd] 27)) M4) (hR : Ans M4 (M3.alloc (.cells #[.int .i64 S, ud, .int .i64 LE, hd] 27)).heap.size M4.heap.size U H uw hw) :
    LW w (M4.alloc (.cells #[.int .i64 S, uw, .int .i64 LE, hw] 27)) l S LE M1.heap.size M2.heap.size M3.heap.size M4.heap.size U H U H ua ha ud hd uw hw := by
  have z2 := hb2.size
  have z3 := hb3.size
  have z4 := hb4.size
  rw [World.size_alloc] at z3 z4
  have k3 : ∀ k, k < M2.heap.size → M3.heap[k]? = M2.heap[k]? := fun k hk => (hb3.block k (by rw [World.size_alloc]; omega)).trans (Below.heap_alloc _ _ _ hk)
  have k4 : ∀ k, k < M3.heap.size → M4.heap[k]? = M3.heap[k]? := fun k hk => (hb4.block k (by rw [World.size_alloc]; omega)).trans (Below.heap_alloc _ _ _ hk)
  have k5 : ∀ k, k < M4.heap.size → (M4.alloc (.cells #[.int .i64 S, uw, .int .i64 LE, hw] 27)).heap[k]? = M4.heap[k]? := fun k hk => Below.heap_alloc _ _ _ hk
  rw [World.size_alloc] at hD hR
  refine ⟨((hb1.trans (hb2.mono (by omega))).trans ⟨?_, ?_, ?_, by omega, fun k hk => k3 k (by omega)⟩).trans (Below.trans ⟨?_, ?_, ?_, by omega, fun k hk => k4 k (by omega)⟩ ((Below.refl _ M4).alloc (by omega) _)), ?_, hs1, z2, by omega, by omega, by simp, hA.persist fun k _ hk => ((k5 k (by omega)).trans (k4 k (by omega))).trans (k3 k hk), hD.persist fun k _ hk => (k5 k (by omega)).trans (k4 k hk), hR.persist fun k _ hk => k5 k hk, ?_, ?_, ?_⟩
  · exact hb3.os
  · exact hb3.tape
  · exact hb3.output
  · exact hb4.os
  · exact hb4.tape
  · exact hb4.output
  · have h2 := range_below hb2 hs1 hh
    intro j v hv
    have := h2 j v hv
    rw [World.cell?] at this ⊢
    have e : (M4.alloc (.cells #[.int .i64 S, uw, .int .i64 LE, hw] 27)).heap[w.heap.size]? = M2.heap[w.heap.size]? := ((k5 _ (by omega)).trans (k4 _ (by omega))).trans (k3 _ (by omega))
    simp only [e]
    exact this
  · rw [k5 _ (by omega), k4 _ (by omega), hb3.block _ (by simp)]
    exact World.alloc_heap_new M2 _
  · rw [k5 _ (by omega), hb4.block _ (by simp)]
    exact World.alloc_heap_new M3 _
  · exact World.alloc_heap_new M4 _

set_option maxRecDepth 100000 in
set_option maxHeartbeats 8000000 in
theorem fusesRead_walk (l : List Int) (al : Option Addr) (cl : Nat) (w : World) (hl : l.length ≤ 20000000000000)
    (hN : Calls Try.prog 5 #[.slice al l.length cl] w fun e w' => e = .returned (.slice (some ⟨w.heap.size, 0, none⟩) l.length (l.length + 4)) ∧ w'.rangeAt w.heap.size 0 (cellsI (l ++ [77, 77, 77, 77])) ∧ Below w.heap.size w w' ∧ w.heap.size < w'.heap.size)
    (hRef : ∀ w', Below w.heap.size w w' → Calls Try.prog 7 #[.slice al l.length cl] w' fun e w'' => ∃ s le u h code, e = .returned (.tuple #[.agg (fusV s u le h).toArray, .int .i64 code]) ∧ Below w'.heap.size w' w'' ∧ FusAns w'' w'.heap.size l s le u h code)
    (hKp : ∀ w', Below w.heap.size w w' → w'.rangeAt w.heap.size 0 (cellsI (l ++ [77, 77, 77, 77])) → Calls Try.prog 9 #[.slice (some ⟨w.heap.size, 0, none⟩) l.length (l.length + 4), .slice al l.length cl] w' fun e w'' => e = .returned (.bool true) ∧ ∃ n, w'' = w'.drewN n) :
    Calls Try.prog 3 #[.slice al l.length cl] w fun e w' => e = .returned (.bool true) ∧ Below w.heap.size w w' := by
  obtain ⟨S, U, LE, H, C, hF⟩ : ∃ S U LE H C, fusF l = (S, U, LE, H, C) := ⟨_, _, _, _, _, rfl⟩
  have HRef : Hid (∀ w', Below w.heap.size w w' → Calls Try.prog 7 #[.slice al l.length cl] w' fun e w'' => ∃ u h, e = .returned (.tuple #[.agg #[.int .i64 S, u, .int .i64 LE, h], .int .i64 C]) ∧ Below w'.heap.size w' w'' ∧ Ans w'' w'.heap.size w''.heap.size U H u h) := fun w' hb => (hRef w' hb).mono (by
    rintro e w'' ⟨s, le, u, h, code, rfl, hb2, hA⟩
    obtain ⟨rfl, rfl, rfl, hA⟩ := ans_of hF hA
    exact ⟨u, h, rfl, hb2, hA⟩)
  have HFu : Hid (∀ w', Below w.heap.size w w' → w'.rangeAt w.heap.size 0 (cellsI (l ++ [77, 77, 77, 77])) → w.heap.size < w'.heap.size → Calls Try.prog 6 #[.slice (some ⟨w.heap.size, 0, none⟩) l.length (l.length + 4)] w' fun e w'' => ∃ u h, e = .returned (.tuple #[.agg #[.int .i64 S, u, .int .i64 LE, h], .int .i64 C]) ∧ Below w'.heap.size w' w'' ∧ Ans w'' w'.heap.size w''.heap.size U H u h) := fun w' hb hr hs =>
    lintelFuses_any l hF w.heap.size 0 (l.length + 4) w' (range_front hr) hl hs (by omega)
  have HKp : Hid _ := hKp
  have HLen : Hid (U.length ≤ 4 ∧ H.length ≤ 4) := fusF_len hF
  have HN : Hid _ := hN
  clear hRef hKp hN hF
  go_enter Try.func3, Try.ntmps3
  go_wp2_with fail
  refine Calls.mono HN.out ?_
  rintro e M1 ⟨rfl, hh, hb1, hs1⟩
  clear HN
  go_wp2_with fail
  refine Calls.mono (HFu.out M1 hb1 hh hs1) ?_
  rintro e M2 ⟨ua, ha, rfl, hb2, hA⟩
  obtain ⟨aua, cua, rfl⟩ := own_slice hA.ou
  obtain ⟨aha, cha, rfl⟩ := own_slice hA.oh
  go_wp2_with fail
  have hb2' : Below w.heap.size w (M2.alloc (.cells #[.int .i64 S, .slice aua U.length cua, .int .i64 LE, .slice aha H.length cha] 27)) := (hb1.trans (hb2.mono (by omega))).alloc (by have := hb2.size; omega) _
  have hh2 : (M2.alloc (.cells #[.int .i64 S, .slice aua U.length cua, .int .i64 LE, .slice aha H.length cha] 27)).rangeAt w.heap.size 0 (cellsI (l ++ [77, 77, 77, 77])) := World.rangeAt_alloc (range_below hb2 hs1 hh) _
  have hz2 := hb2.size
  refine Calls.mono (HFu.out _ hb2' hh2 (by simp; omega)) ?_
  rintro e M3 ⟨ud, hd, rfl, hb3, hD⟩
  obtain ⟨aud, cud, rfl⟩ := own_slice hD.ou
  obtain ⟨ahd, chd, rfl⟩ := own_slice hD.oh
  go_wp2_with fail
  have hz3 := hb3.size
  rw [World.size_alloc] at hz3
  have hb3' : Below w.heap.size w (M3.alloc (.cells #[.int .i64 S, .slice aud U.length cud, .int .i64 LE, .slice ahd H.length chd] 27)) := (hb2'.trans (hb3.mono (by rw [World.size_alloc]; omega))).alloc (by omega) _
  refine Calls.mono (HRef.out _ hb3') ?_
  rintro e M4 ⟨uw, hw, rfl, hb4, hR⟩
  obtain ⟨auw, cuw, rfl⟩ := own_slice hR.ou
  obtain ⟨ahw, chw, rfl⟩ := own_slice hR.oh
  go_upto_region 5 with fail
  have hLW := lw_make hb1 hh hs1 hb2 hA hb3 hD hb4 hR
  have Hz4 : Hid (M1.heap.size ≤ M2.heap.size) := hz2
  clear hb1 hh hs1 hb2 hA hb3 hD hb4 hR hb2' hh2 hz2 hz3 hb3'
  generalize M4.alloc (.cells #[.int .i64 S, .slice auw U.length cuw, .int .i64 LE, .slice ahw H.length chw] 27) = M5 at *
  generalize M1.heap.size = n1 at *
  generalize M2.heap.size = gA at *
  generalize M3.heap.size = gD at *
  generalize M4.heap.size = gW at *
  obtain ⟨a0, a1, a2, a3⟩ := cells4 hLW.bA
  obtain ⟨w0, w1, w2, w3⟩ := cells4 hLW.bW
  have HLW : Hid _ := hLW
  clear hLW Hz4
  go_wp2_with fail
  refine Calls.mono (sameFuses_eq S LE U H _ _ _ _ n1 (gD + 1) M5 HLW.out.a.ou HLW.out.r.ou HLW.out.a.oh HLW.out.r.oh HLen.out.1 HLen.out.2) ?_
  rintro e M6 ⟨rfl, hb6⟩
  have HL6 : Hid _ := HLW.out.calm hb6
  clear HLW hb6 a0 a1 a2 a3 w0 w1 w2 w3
  go_wp2_with fail
  go_loopw [11] (fun i wr => ∃ k : Nat, k ≤ U.length ∧ i = .int .i64 k ∧ LW w wr l S LE n1 gA gD gW (mineB k U) H U H (.slice aua U.length cua) (.slice aha H.length cha) (.slice aud U.length cud) (.slice ahd H.length chd) (.slice auw U.length cuw) (.slice ahw H.length chw)) (fun i _ => U.length - (intOf i).toNat)
  case atStart => exact ⟨0, by omega, rfl, HL6.out⟩
  case round =>
    obtain ⟨k, hk, rfl, hLW⟩ := hrel
    obtain ⟨a0, a1, a2, a3⟩ := cells4 hLW.bA
    have HLW : Hid _ := hLW
    clear hLW
    have hU4 := HLen.out.1
    by_cases hlt : k < U.length
    · have hlt' : (k : Int) < (U.length : Int) := by omega
      obtain ⟨g, cap, hv, ⟨x, hx, hc⟩, hf⟩ := own_cell HLW.out.a.ou (k := k) (by rw [mineB_len hk]; exact hlt)
      rw [mineB_len hk] at hv
      obtain ⟨rfl, _, rfl⟩ : aua = some ⟨g, 0, none⟩ ∧ True ∧ cua = cap := by injection hv with h1 h2 h3; exact ⟨h1, trivial, h3⟩
      clear hv hx
      go_wp2_with fail
      go_roundw
      case rel => exact ⟨k + 1, by omega, by go_num, by rw [← mineB_set hlt]; exact HLW.out.setU (by rw [mineB_len hk]; exact hlt) rfl⟩
      case measure => simp [intOf]; omega
    · obtain rfl : k = U.length := by omega
      have hlt' : ¬ (U.length : Int) < (U.length : Int) := by omega
      go_wp2_with fail
      have HLa : Hid _ := HLW.out
      clear HLW a0 a1 a2 a3 HL6
      go_loopw [12] (fun i wr => ∃ k : Nat, k ≤ H.length ∧ i = .int .i64 k ∧ LW w wr l S LE n1 gA gD gW (mineB U.length U) (mineH k H) U H (.slice aua U.length cua) (.slice aha H.length cha) (.slice aud U.length cud) (.slice ahd H.length chd) (.slice auw U.length cuw) (.slice ahw H.length chw)) (fun i _ => H.length - (intOf i).toNat)
      case atStart => exact ⟨0, by omega, rfl, HLa.out⟩
      case round =>
        obtain ⟨k, hk, rfl, hLW⟩ := hrel
        obtain ⟨a0, a1, a2, a3⟩ := cells4 hLW.bA
        have HLW : Hid _ := hLW
        clear hLW
        have hH4 := HLen.out.2
        by_cases hlt : k < H.length
        · have hlt' : (k : Int) < (H.length : Int) := by omega
          obtain ⟨g, cap, hv, ⟨x, hx, hc⟩, hf⟩ := own_cell HLW.out.a.oh (k := k) (by rw [mineH_len hk]; exact hlt)
          rw [mineH_len hk] at hv
          obtain ⟨rfl, _, rfl⟩ : aha = some ⟨g, 0, none⟩ ∧ True ∧ cha = cap := by injection hv with h1 h2 h3; exact ⟨h1, trivial, h3⟩
          clear hv hx
          go_wp2_with fail
          go_roundw
          case rel => exact ⟨k + 1, by omega, by go_num, by rw [← mineH_set hlt]; exact HLW.out.setH (by rw [mineH_len hk]; exact hlt) rfl⟩
          case measure => simp [intOf]; omega
        · obtain rfl : k = H.length := by omega
          have hlt' : ¬ (H.length : Int) < (H.length : Int) := by omega
          clear HLa
          obtain ⟨i0, hi, hz0, hz1, hz2⟩ := info_parts Try.infoBool
          have Hou : Hid (wr.ownsRow n1 4 1 (.slice aua U.length cua) U.length (boolsV (List.replicate U.length true))) := by
            have h := HLW.out.a.ou
            rw [mineB_all, List.length_replicate] at h
            exact h
          have Hn : Hid (n1 ≤ wr.heap.size) := by show n1 ≤ wr.heap.size; have := HLW.out.o2; have := HLW.out.o3; have := HLW.out.o4; have := HLW.out.o5; omega
          go_upto_region 14 with fail
          go_wp2_with (first
            | refine wpList_append_own _ (by rfl) _ _ 24 (by rfl) n1 4 i0 (.bool false) 1 1 Try.underlying24 hi hz0 hz1 hz2 (by rfl) (by decide) (.slice aua U.length cua) U.length (boolsV (List.replicate U.length true)) (by rfl) (by exact World.ownsRow.alloc Hou.out _) ⟨wr.heap.size, 0, none⟩ 2 2 [.bool true, .bool true] (by rfl) (by rfl) (by exact cell_two_new _ _ _ _) (by simp [Value.oneCell']) (by unfold maxLen; omega) (by omega) (by simp only [World.size_alloc]; have := Hn.out; omega) ?_)
          intro vx w4 hownx hgrow _
          obtain ⟨ax, cx, rfl⟩ := own_slice hownx
          have hY := HLW.out.append hownx hgrow
          clear HLW hownx hgrow Hou Hn a0 a1 a2 a3 i0 hi hz0 hz1 hz2
          obtain ⟨a0, a1, a2, a3⟩ := cells4 hY.bA
          have HY : Hid _ := hY
          clear hY
          obtain ⟨i0, hi, hz0, hz1, hz2⟩ := info_parts Try.infoText
          have Hn : Hid (n1 ≤ w4.heap.size) := by show n1 ≤ w4.heap.size; have := HY.out.o2; have := HY.out.o3; have := HY.out.o4; have := HY.out.o5; omega
          go_wp2_with (first
            | refine wpList_append_own _ (by rfl) _ _ 25 (by rfl) n1 9 i0 (.string ⟨#[]⟩) 1 16 Try.underlying25 hi hz0 hz1 hz2 (by rfl) (by decide) (.slice aha H.length cha) H.length (textsV (List.replicate H.length mineT)) (by rfl) (by exact World.ownsRow.alloc HY.out.oh _) ⟨w4.heap.size, 0, none⟩ 2 2 [.string ⟨#[109, 105, 110, 101]⟩, .string ⟨#[109, 105, 110, 101]⟩] (by rfl) (by rfl) (by exact cell_two_new _ _ _ _) (by simp [Value.oneCell']) (by unfold maxLen; omega) (by omega) (by simp only [World.size_alloc]; have := Hn.out; omega) ?_)
          intro vy w5 howny hgrow _
          obtain ⟨ay, cy, rfl⟩ := own_slice howny
          have HX : Hid _ := HY.out.append howny hgrow
          clear HY howny hgrow Hn a0 a1 a2 a3 i0 hi hz0 hz1 hz2
          go_wp2_with fail
          have hz5 := HX.out.o5
          refine Calls.mono (HFu.out w5 HX.out.below HX.out.hh (by have := HX.out.o1; have := HX.out.o3; have := HX.out.o4; omega)) ?_
          rintro e M7 ⟨ub, hb, rfl, hb7, hB⟩
          obtain ⟨aub, cub, rfl⟩ := own_slice hB.ou
          obtain ⟨ahb, chb, rfl⟩ := own_slice hB.oh
          go_upto_region 17 with fail
          have hX8 := HX.out.calm (hb7.trans ((Below.refl _ M7).alloc (by exact hb7.size) (.cells #[.int .i64 S, .slice aub U.length cub, .int .i64 LE, .slice ahb H.length chb] 27)))
          have hB8 := hB.calm (M' := M7.alloc (.cells #[.int .i64 S, .slice aub U.length cub, .int .i64 LE, .slice ahb H.length chb] 27)) ((Below.refl _ M7).alloc (Nat.le_refl _) _) (Nat.le_refl _)
          have hbB := World.alloc_heap_new M7 (.cells #[.int .i64 S, .slice aub U.length cub, .int .i64 LE, .slice ahb H.length chb] 27)
          have hz8 : M7.heap.size < (M7.alloc (.cells #[.int .i64 S, .slice aub U.length cub, .int .i64 LE, .slice ahb H.length chb] 27)).heap.size := by simp
          clear HX hB hb7
          generalize M7.alloc (.cells #[.int .i64 S, .slice aub U.length cub, .int .i64 LE, .slice ahb H.length chb] 27) = M8 at *
          generalize M7.heap.size = gB at *
          obtain ⟨a0, a1, a2, a3⟩ := cells4 hbB
          obtain ⟨w0, w1, w2, w3⟩ := cells4 hX8.bW
          have HX8 : Hid _ := hX8
          have HB8 : Hid _ := hB8
          clear hX8 hB8 hbB hz8
          go_wp2_with fail
          refine Calls.mono (sameFuses_eq S LE U H _ _ _ _ w5.heap.size (gD + 1) M8 HB8.out.ou HX8.out.r.ou HB8.out.oh HX8.out.r.oh HLen.out.1 HLen.out.2) ?_
          rintro e M9 ⟨rfl, hb9⟩
          have hX9 := HX8.out.calm hb9
          clear HX8 HB8 hb9 a0 a1 a2 a3 w0 w1 w2 w3
          obtain ⟨a0, a1, a2, a3⟩ := cells4 hX9.bD
          obtain ⟨w0, w1, w2, w3⟩ := cells4 hX9.bW
          have HX9 : Hid _ := hX9
          clear hX9
          go_wp2_with fail
          refine Calls.mono (sameFuses_eq S LE U H _ _ _ _ (gA + 1) (gD + 1) M9 HX9.out.d.ou HX9.out.r.ou HX9.out.d.oh HX9.out.r.oh HLen.out.1 HLen.out.2) ?_
          rintro e M10 ⟨rfl, hb10⟩
          have HX10 : Hid _ := HX9.out.calm hb10
          clear HX9 hb10 a0 a1 a2 a3 w0 w1 w2 w3
          go_wp2_with fail
          refine Calls.mono (HKp.out M10 HX10.out.below HX10.out.hh) ?_
          rintro e M11 ⟨rfl, nk, rfl⟩
          have HX11 : Hid (LX w (M10.drewN nk) l S LE gA gD gW U H (.slice aud U.length cud) (.slice ahd H.length chd) (.slice auw U.length cuw) (.slice ahw H.length chw) (.slice ax (U.length + 2) cx) (.slice ay (H.length + 2) cy)) := HX10.out.calm ⟨rfl, rfl, rfl, Nat.le_refl _, fun _ _ => rfl⟩
          clear HX10
          generalize M10.drewN nk = M11 at *
          go_wp2_with fail
          go_loopw [19, 20] (fun v i wr => v = .bool true ∧ ∃ k : Nat, k ≤ U.length + 2 ∧ i = .int .i64 k ∧ wr = M11) (fun _ i _ => U.length + 2 - (intOf i).toNat)
          case atStart => exact ⟨rfl, 0, by omega, rfl, rfl⟩
          case round =>
            obtain ⟨rfl, k, hk, rfl, rfl⟩ := hrel
            by_cases hlt : k < U.length + 2
            · have hlt' : (k : Int) < ((U.length + 2 : Nat) : Int) := by omega
              obtain ⟨g, cap, hv, ⟨x, hx, hc⟩, hf⟩ := own_cell HX11.out.ox hlt
              obtain ⟨rfl, rfl⟩ : ax = some ⟨g, 0, none⟩ ∧ cx = cap := by injection hv with h1 h2 h3; exact ⟨h1, h3⟩
              obtain rfl : x = .bool true := by
                rw [boolsV, List.map_replicate, List.getElem?_replicate, if_pos hlt] at hx
                exact (Option.some.inj hx).symm
              clear hv hx
              go_wp2_with fail
              go_roundw
              case rel => exact ⟨rfl, k + 1, by omega, by go_num, trivial⟩
              case measure => simp [intOf]; omega
            · obtain rfl : k = U.length + 2 := by omega
              have hlt' : ¬ ((U.length + 2 : Nat) : Int) < ((U.length + 2 : Nat) : Int) := by omega
              go_wp2_with fail
              go_loopw [19, 21] (fun v i wr' => v = .bool true ∧ ∃ k : Nat, k ≤ H.length + 2 ∧ i = .int .i64 k ∧ wr' = wr) (fun _ i _ => H.length + 2 - (intOf i).toNat)
              case atStart => exact ⟨rfl, 0, by omega, rfl, rfl⟩
              case round =>
                obtain ⟨rfl, k, hk, rfl, rfl⟩ := hrel
                by_cases hlt : k < H.length + 2
                · have hlt' : (k : Int) < ((H.length + 2 : Nat) : Int) := by omega
                  obtain ⟨g, cap, hv, ⟨x, hx, hc⟩, hf⟩ := own_cell HX11.out.oy hlt
                  obtain ⟨rfl, rfl⟩ : ay = some ⟨g, 0, none⟩ ∧ cy = cap := by injection hv with h1 h2 h3; exact ⟨h1, h3⟩
                  obtain rfl : x = .string ⟨#[109, 105, 110, 101]⟩ := by
                    rw [textsV, List.map_replicate, List.getElem?_replicate, if_pos hlt] at hx
                    exact (Option.some.inj hx).symm
                  clear hv hx
                  go_wp2_with fail
                  go_roundw
                  case rel => exact ⟨rfl, k + 1, by omega, by go_num, trivial⟩
                  case measure => simp [intOf]; omega
                · obtain rfl : k = H.length + 2 := by omega
                  have hlt' : ¬ ((H.length + 2 : Nat) : Int) < ((H.length + 2 : Nat) : Int) := by omega
                  have hCC : (C == C) = true := by simp
                  go_wp2_with fail
                  go_ret
                  exact ⟨rfl, HX11.out.below⟩

end Go.Proofs.Ytkmoglhgkcnalaa
