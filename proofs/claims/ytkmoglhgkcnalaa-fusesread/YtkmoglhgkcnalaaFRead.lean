/- fuses.Read: the same answer as the reference's Fuses. -/
import Derived.Test.YtkmoglhgkcnalaaFIter
import Derived.Test.YtkmoglhgkcnalaaFRound
import Derived.Test.YtkmoglhgkcnalaaFMem
import Derived.Test.YtkmoglhgkcnalaaFNil
namespace Go.Proofs.Ytkmoglhgkcnalaa
open Go.RowKit Go.Shelf
attribute [local go_sem] Oper.semAt_some

theorem results_cell_cell {P : Program} {fn : Func} {p q : Tmp} {ty ty' : TypeId} (h : fn.results = #[.cell p ty, .cell q ty']) (tmps : Array Value) (w : World) (b o b' o' : Nat) (cs : List Value) (d : TypeDesc) (v : Value)
    (hp : tmps.getD p undef = .pointer (some ⟨b, o, none⟩)) (hc : w.rangeAt b o cs) (hq : tmps.getD q undef = .pointer (some ⟨b', o', none⟩)) (hv : (loadVar ty' ⟨b', o', none⟩).run P w = .ok v w)
    (hu : P.underlying ty = some d) (hd : d.isRow = true) (hi : (P.info? ty).map (·.size) = some cs.length) :
    (results fn tmps).run P w = .ok (.tuple #[.agg cs.toArray, v]) w := by
  have hp' : tmps[p]?.getD undef = .pointer (some ⟨b, o, none⟩) := by simpa using hp
  have hq' : tmps[q]?.getD undef = .pointer (some ⟨b', o', none⟩) := by simpa using hq
  simp [results, h, hp', hq', asAddr, run_loadVar_mid w b o ty cs d hc hu hd hi, hv]

theorem errno_load (w : World) (g : Nat) (k : Int) (h : w.cell? ⟨g, 0, none⟩ = some (.int .i64 k)) : (loadVar 28 ⟨g, 0, none⟩).run Try.prog w = .ok (.int .i64 k) w := by
  simp [go_sem, h]

theorem Try.infoBool' : (Try.prog.info? 4).map (fun i => (i.zero, i.size, i.bytes)) = some (some (.bool false), 1, 1) := by kernel_rfl
theorem Try.infoText' : (Try.prog.info? 9).map (fun i => (i.zero, i.size, i.bytes)) = some (some (.string ⟨#[]⟩), 1, 16) := by kernel_rfl
theorem Try.makeB (W : World) : (Instr.makeSlice 24 (.int .i64 4) (.int .i64 4)).run Try.prog W = .ok (.slice (some ⟨W.heap.size, 0, none⟩) 4 4) (W.alloc (.cells #[.bool false, .bool false, .bool false, .bool false] 4)) :=
  (run_make_row' (P := Try.prog) 24 4 (.bool false) 1 Try.underlying24 Try.infoBool' rfl .i64 .i64 4 (by omega) (by omega) W).trans (by rw [show madeCells #[.bool false] 4 = #[.bool false, .bool false, .bool false, .bool false] from by kernel_rfl])
theorem Try.makeT (W : World) : (Instr.makeSlice 25 (.int .i64 4) (.int .i64 4)).run Try.prog W = .ok (.slice (some ⟨W.heap.size, 0, none⟩) 4 4) (W.alloc (.cells #[.string ⟨#[]⟩, .string ⟨#[]⟩, .string ⟨#[]⟩, .string ⟨#[]⟩] 9)) :=
  (run_make_row' (P := Try.prog) 25 9 (.string ⟨#[]⟩) 16 Try.underlying25 Try.infoText' rfl .i64 .i64 4 (by omega) (by omega) W).trans (by rw [show madeCells #[.string ⟨#[]⟩] 4 = #[.string ⟨#[]⟩, .string ⟨#[]⟩, .string ⟨#[]⟩, .string ⟨#[]⟩] from by kernel_rfl])
theorem three (W : World) (o1 o2 o3 : Obj) : ((((W.alloc o1).alloc o2).alloc o3).drew.heap[W.heap.size]? = some o1 ∧ (((W.alloc o1).alloc o2).alloc o3).drew.heap[W.heap.size + 1]? = some o2 ∧ (((W.alloc o1).alloc o2).alloc o3).drew.heap[W.heap.size + 1 + 1]? = some o3)
    ∧ Below W.heap.size W (((W.alloc o1).alloc o2).alloc o3).drew := by
  refine ⟨⟨?_, ?_, ?_⟩, ?_⟩
  · show (((W.alloc o1).alloc o2).alloc o3).heap[W.heap.size]? = _
    rw [Below.heap_alloc _ _ _ (by simp; omega), Below.heap_alloc _ _ _ (by simp)]; exact World.alloc_heap_new W _
  · show (((W.alloc o1).alloc o2).alloc o3).heap[W.heap.size + 1]? = _
    rw [Below.heap_alloc _ _ _ (by simp)]; have := World.alloc_heap_new (W.alloc o1) o2; rwa [World.size_alloc] at this
  · show (((W.alloc o1).alloc o2).alloc o3).heap[W.heap.size + 1 + 1]? = _
    have := World.alloc_heap_new ((W.alloc o1).alloc o2) o3; rwa [World.size_alloc, World.size_alloc] at this
  · have h := (((Below.refl W.heap.size W).alloc (Nat.le_refl _) o1).alloc (by simp) o2).alloc (by simp; omega) o3
    exact ⟨h.os, h.tape, h.output, h.size, h.block⟩
def zs : List Value := fusV 0 (.slice none 0 0) 0 (.slice none 0 0)

theorem okF_no {l : List Int} {k : Nat} (hk : k < 4) (h : rightB (placeL l k) = false) : ((List.range 4).all fun k => rightB (placeL l k)) = false := by
  rw [List.all_eq_false]
  exact ⟨k, by simpa using hk, by rw [h]; simp⟩
theorem sets_size (g : Nat) : ∀ (vs : List Value) (k : Nat) (M : World), (M.setCells g k vs).heap.size = M.heap.size
  | [], _, _ => rfl
  | v :: vs, k, M => by rw [World.setCells, sets_size g vs (k + 1), World.size_setCell]
theorem keeps_two {B n : Nat} {W : World} (hB : n + 2 ≤ B) (m : Nat) (vs : List Value) (v : Value) (o : Nat) : KeepsFrom B W (((W.drewN m).setCells n 0 vs).setCell ⟨n + 1, o, none⟩ v) :=
  ⟨by have : (((W.drewN m).setCells n 0 vs).setCell ⟨n + 1, o, none⟩ v).heap.size = W.heap.size := by
        rw [World.size_setCell, sets_size]; rfl
      omega, fun k _ hk h _ => by rw [heap_set_other (by omega), heap_sets_other (by omega)]; exact h⟩
theorem kc_set {Bs g k : Nat} {v : Value} {W M : World} (h : KC Bs W M) (hne : Bs ≠ g) : KC Bs W (M.setCell ⟨g, k, none⟩ v) := by
  unfold KC at h ⊢
  rw [← h, World.cell?, World.cell?, heap_set_other hne]
theorem place_len {l : List Int} (h : l.length = 85) {k : Nat} (hk : k < 4) : (placeL l k).length = 20 := by
  simp [placeL, h]; omega
theorem place_getD (l : List Int) (k : Nat) {j : Nat} (hj : j < 20) : (placeL l k).getD j 0 = l.getD (5 + 20 * k + j) 0 := by
  simp [placeL, hj, List.getElem?_drop]
theorem range_place {W : World} {b off : Nat} {l : List Int} (h : W.rangeAt b off (cellsI l)) (k : Nat) : W.rangeAt b (off + (5 + 20 * k)) (cellsI (placeL l k)) := fun j v hv => by
  have h1 : (cellsI l)[5 + 20 * k + j]? = some v := by
    simp only [cellsI, placeL, List.map_take, List.map_drop, List.getElem?_take, List.getElem?_drop] at hv
    split at hv
    · exact hv
    · cases hv
  have := h _ _ h1
  rwa [show off + (5 + 20 * k + j) = off + (5 + 20 * k) + j by omega] at this

/-- the results' blocks -/
structure R0 (w M : World) (code : Int) : Prop where
  below : Below w.heap.size w M
  size : w.heap.size + 2 ≤ M.heap.size
  b0 : M.heap[w.heap.size]? = some (.cells zs.toArray 27 (0, 0))
  b1 : M.heap[w.heap.size + 1]? = some (.cells #[.int .i64 code] 28 (0, 0))
theorem Rd.range7 {w M : World} {g7 gu gh : Nat} {s le : Int} {U : List Bool} {H : List (List UInt8)} (f : Rd w M g7 gu gh s le U H) : M.rangeAt g7 0 (fusV s (.slice (some ⟨gu, 0, none⟩) 4 4) le (.slice (some ⟨gh, 0, none⟩) 4 4)) := fun j v hv => by
  rw [World.cell?]
  simp only [f.b7]
  simpa using hv
theorem Rd.cellU {w M : World} {g7 gu gh : Nat} {s le : Int} {U : List Bool} {H : List (List UInt8)} (f : Rd w M g7 gu gh s le U H) {k : Nat} (hk : k < 4) : (M.cell? ⟨gu, k, none⟩).isSome = true ∧ M.frozen? ⟨gu, k, none⟩ = false := by
  have := f.lenU
  constructor
  · rw [World.cell?]; simp [f.bu, boolsV]; omega
  · rw [World.frozen?]; simp [f.bu]
theorem Rd.cellH {w M : World} {g7 gu gh : Nat} {s le : Int} {U : List Bool} {H : List (List UInt8)} (f : Rd w M g7 gu gh s le U H) {k : Nat} (hk : k < 4) : (M.cell? ⟨gh, k, none⟩).isSome = true ∧ M.frozen? ⟨gh, k, none⟩ = false := by
  have := f.lenH
  constructor
  · rw [World.cell?]; simp [f.bh, textsV]; omega
  · rw [World.frozen?]; simp [f.bh]
theorem R0.ofRd {w M : World} {g7 gu gh : Nat} {s le : Int} {U : List Bool} {H : List (List UInt8)} (f : Rd w M g7 gu gh s le U H) : R0 w M 0 := by
  have h1 := f.l7
  have h2 := heap_lt f.b7
  exact ⟨f.below, by omega, f.b0, f.b1⟩
theorem R0.drewN {w M : World} {c : Int} (f : R0 w M c) (n : Nat) : R0 w (M.drewN n) c := ⟨⟨f.below.os, f.below.tape, f.below.output, f.below.size, f.below.block⟩, f.size, f.b0, f.b1⟩
theorem R0.there {w M : World} {c : Int} (f : R0 w M c) : M.there w.heap.size 0 4 := fun j hj => by
  constructor
  · rw [World.cell?]
    simp only [f.b0, zs, fusV]
    match j, hj with
    | 0, _ => rfl
    | 1, _ => rfl
    | 2, _ => rfl
    | 3, _ => rfl
  · rw [World.frozen?]
    simp only [f.b0]
    simp
/-- .. ahead of the store of the error -/
theorem R0.mid {w M : World} {c : Int} (f : R0 w M c) : (M.setCells w.heap.size 0 zs).cell? ⟨w.heap.size + 1, 0, none⟩ = some (.int .i64 c) ∧ (M.setCells w.heap.size 0 zs).frozen? ⟨w.heap.size + 1, 0, none⟩ = false := by
  have h := heap_sets_other (g := w.heap.size + 1) (g' := w.heap.size) (by omega) zs 0 M
  rw [f.b1] at h
  constructor
  · rw [World.cell?]; simp only [h]; rfl
  · rw [World.frozen?]; simp only [h]; rfl
/-- .. behind both stores -/
theorem R0.set {w M : World} {c : Int} (f : R0 w M c) (k : Int) : R0 w ((M.setCells w.heap.size 0 zs).setCell ⟨w.heap.size + 1, 0, none⟩ (.int .i64 k)) k := by
  have h1 := heap_sets_other (g := w.heap.size + 1) (g' := w.heap.size) (by omega) zs 0 M
  have h0 := heap_sets4 f.b0 (.int .i64 0) (.slice none 0 0) (.int .i64 0) (.slice none 0 0)
  rw [f.b1] at h1
  refine ⟨(below_setCells (Nat.le_refl _) _ _ _ _ f.below).setCell (p := ⟨w.heap.size + 1, 0, none⟩) (by show w.heap.size ≤ w.heap.size + 1; omega) _, ?_, ?_, ?_⟩
  · have := f.size; simpa [zs, fusV, World.setCells, World.setCell] using this
  · rw [heap_set_other (by omega)]; exact h0
  · rw [heap_set h1]; rfl
theorem R0.mid' {w M : World} {c : Int} (f : R0 w M c) (s le : Int) (u h : Value) : (M.setCells w.heap.size 0 (fusV s u le h).toArray.toList).cell? ⟨w.heap.size + 1, 0, none⟩ = some (.int .i64 c) ∧ (M.setCells w.heap.size 0 (fusV s u le h).toArray.toList).frozen? ⟨w.heap.size + 1, 0, none⟩ = false := by
  have h := heap_sets_other (g := w.heap.size + 1) (g' := w.heap.size) (by omega) (fusV s u le h).toArray.toList 0 M
  rw [f.b1] at h
  constructor
  · rw [World.cell?]; simp only [h]; rfl
  · rw [World.frozen?]; simp only [h]; rfl
theorem R0.own {w M M' : World} {c : Int} {row : Option Nat} {B : Nat} (f : R0 w M c) (hB : w.heap.size ≤ B) (hg : M.grownBy M' row) (hr : ∀ r, row = some r → B ≤ r ∧ ∃ o : Obj, M.heap[r]? = some o ∧ o.isCells = false) : R0 w M' c := by
  have hk : ∀ (k : Nat) (o : Obj), M.heap[k]? = some o → o.isCells = true → M'.heap[k]? = some o := fun k o hk ho => (hg.block k (heap_lt hk) fun e => by
    obtain ⟨_, o', h1, h2⟩ := hr k e.symm
    rw [hk] at h1
    cases h1
    rw [ho] at h2
    cases h2).trans hk
  exact ⟨f.below.trans ((Below.refl _ M).grown hg f.below.size fun k hk => Nat.le_trans hB (hr k hk).1), Nat.le_trans f.size hg.size, hk _ _ f.b0 rfl, hk _ _ f.b1 rfl⟩
theorem R0.range {w M : World} {c : Int} (f : R0 w M c) : M.rangeAt w.heap.size 0 zs := fun j v hv => by
  rw [World.cell?]
  simp only [f.b0]
  simpa using hv
/-- what comes back then -/
theorem R0.results {w M : World} {c : Int} (f : R0 w M c) (tmps : Array Value) (h2 : tmps.getD 2 undef = .pointer (some ⟨w.heap.size, 0, none⟩)) (h3 : tmps.getD 3 undef = .pointer (some ⟨w.heap.size + 1, 0, none⟩)) :
    (Go.results Try.f13 tmps).run Try.prog M = .ok (.tuple #[.agg zs.toArray, .int .i64 c]) M :=
  results_cell_cell (p := 2) (q := 3) (ty := 27) (ty' := 28) (by kernel_rfl) tmps M w.heap.size 0 (w.heap.size + 1) 0 zs _ _ h2 f.range h3 (errno_load M (w.heap.size + 1) c (by rw [World.cell?]; simp only [f.b1]; rfl)) Try.underlying27 rfl (by kernel_rfl)

theorem Rd.make {w W M : World} {s le : Int} {g7 gu gh : Nat} (h : R0 w W 0) (hb : Below W.heap.size W M)
    (b7 : M.heap[g7]? = some (.cells #[.int .i64 s, .slice (some ⟨gu, 0, none⟩) 4 4, .int .i64 le, .slice (some ⟨gh, 0, none⟩) 4 4] 27 (0, 0)))
    (bu : M.heap[gu]? = some (.cells #[.bool false, .bool false, .bool false, .bool false] 4 (0, 0)))
    (bh : M.heap[gh]? = some (.cells #[.string ⟨#[]⟩, .string ⟨#[]⟩, .string ⟨#[]⟩, .string ⟨#[]⟩] 9 (0, 0)))
    (l7 : W.heap.size ≤ g7) (lu : W.heap.size ≤ gu) (lh : W.heap.size ≤ gh) (uh : gu ≠ gh) (u7 : gu ≠ g7) (h7 : gh ≠ g7) : Rd w M g7 gu gh s le [false, false, false, false] [[], [], [], []] := by
  have hs := h.size
  exact ⟨h.below.trans (hb.mono (by omega)), by omega, by omega, by omega, uh, u7, h7, (hb.block _ (by omega)).trans h.b0, (hb.block _ (by omega)).trans h.b1, b7, bu, bh, rfl, rfl⟩

theorem okF_yes {l : List Int} (h : ∀ x ∈ fours 4, rightB (placeL l x.1) = true) : (true && true && (List.range 4).all fun k => rightB (placeL l k)) = true := by
  have h0 := h 0 (by decide)
  have h1 := h 1 (by decide)
  have h2 := h 2 (by decide)
  have h3 := h 3 (by decide)
  simp only [Bool.true_and, List.all_eq_true, List.mem_range]
  intro k hk
  have : k = 0 ∨ k = 1 ∨ k = 2 ∨ k = 3 := by omega
  rcases this with rfl | rfl | rfl | rfl
  · exact h0
  · exact h1
  · exact h2
  · exact h3
/-- the answer stands in the results' blocks -/
theorem rd_end {w W : World} {g7 gu gh D : Nat} {s le : Int} {U : List Bool} {H : List (List UInt8)} {c : Nat} (f : Rd w W g7 gu gh s le U H) (hD : c + 1 ≤ D) (hc : w.heap.size + 2 ≤ c) (hu : gu < c) (hh : gh < c) :
    (∀ tmps : Array Value, tmps.getD 2 undef = .pointer (some ⟨w.heap.size, 0, none⟩) → tmps.getD 3 undef = .pointer (some ⟨w.heap.size + 1, 0, none⟩) →
      (Go.results Try.f13 tmps).run Try.prog ((((W.setCells w.heap.size 0 (fusV s (.slice (some ⟨gu, 0, none⟩) 4 4) le (.slice (some ⟨gh, 0, none⟩) 4 4)).toArray.toList).setCell ⟨w.heap.size + 1, 0, none⟩ (.int .i64 0)).putObj D (.deferred none)))
        = .ok (.tuple #[.agg (fusV s (.slice (some ⟨gu, 0, none⟩) 4 4) le (.slice (some ⟨gh, 0, none⟩) 4 4)).toArray, .int .i64 0]) ((((W.setCells w.heap.size 0 (fusV s (.slice (some ⟨gu, 0, none⟩) 4 4) le (.slice (some ⟨gh, 0, none⟩) 4 4)).toArray.toList).setCell ⟨w.heap.size + 1, 0, none⟩ (.int .i64 0)).putObj D (.deferred none)))) ∧
    Below w.heap.size w ((((W.setCells w.heap.size 0 (fusV s (.slice (some ⟨gu, 0, none⟩) 4 4) le (.slice (some ⟨gh, 0, none⟩) 4 4)).toArray.toList).setCell ⟨w.heap.size + 1, 0, none⟩ (.int .i64 0)).putObj D (.deferred none))) ∧
    ((((W.setCells w.heap.size 0 (fusV s (.slice (some ⟨gu, 0, none⟩) 4 4) le (.slice (some ⟨gh, 0, none⟩) 4 4)).toArray.toList).setCell ⟨w.heap.size + 1, 0, none⟩ (.int .i64 0)).putObj D (.deferred none))).ownsRow w.heap.size 4 1 (.slice (some ⟨gu, 0, none⟩) 4 4) U.length (boolsV U) ∧
    ((((W.setCells w.heap.size 0 (fusV s (.slice (some ⟨gu, 0, none⟩) 4 4) le (.slice (some ⟨gh, 0, none⟩) 4 4)).toArray.toList).setCell ⟨w.heap.size + 1, 0, none⟩ (.int .i64 0)).putObj D (.deferred none))).ownsRow w.heap.size 9 1 (.slice (some ⟨gh, 0, none⟩) 4 4) H.length (textsV H) := by
  have lU := f.lenU
  have lH := f.lenH
  have l7 := f.l7
  have lu := f.lu
  have lh := f.lh
  have ho : ∀ k, k ≠ w.heap.size → k ≠ w.heap.size + 1 → k ≠ D → ((((W.setCells w.heap.size 0 (fusV s (.slice (some ⟨gu, 0, none⟩) 4 4) le (.slice (some ⟨gh, 0, none⟩) 4 4)).toArray.toList).setCell ⟨w.heap.size + 1, 0, none⟩ (.int .i64 0)).putObj D (.deferred none))).heap[k]? = W.heap[k]? := fun k h1 h2 h3 => by
    rw [World.putObj_heap_other (fun e => h3 e), heap_set_other h2, heap_sets_other h1]
  have hb0 : ((((W.setCells w.heap.size 0 (fusV s (.slice (some ⟨gu, 0, none⟩) 4 4) le (.slice (some ⟨gh, 0, none⟩) 4 4)).toArray.toList).setCell ⟨w.heap.size + 1, 0, none⟩ (.int .i64 0)).putObj D (.deferred none))).heap[w.heap.size]? = some (.cells (fusV s (.slice (some ⟨gu, 0, none⟩) 4 4) le (.slice (some ⟨gh, 0, none⟩) 4 4)).toArray 27 (0, 0)) := by
    rw [World.putObj_heap_other (by omega), heap_set_other (by omega)]
    exact heap_sets4 f.b0 _ _ _ _
  have hb1 : ((((W.setCells w.heap.size 0 (fusV s (.slice (some ⟨gu, 0, none⟩) 4 4) le (.slice (some ⟨gh, 0, none⟩) 4 4)).toArray.toList).setCell ⟨w.heap.size + 1, 0, none⟩ (.int .i64 0)).putObj D (.deferred none))).heap[w.heap.size + 1]? = some (.cells #[.int .i64 0] 28 (0, 0)) := by
    rw [World.putObj_heap_other (by omega), heap_set (c := #[.int .i64 0]) (e := 28) (fr := (0, 0)) (by rw [heap_sets_other (by omega)]; exact f.b1)]
    rfl
  refine ⟨fun tmps h2 h3 => ?_, ?_, ?_, ?_⟩
  · refine results_cell_cell (p := 2) (q := 3) (ty := 27) (ty' := 28) (by kernel_rfl) tmps _ w.heap.size 0 (w.heap.size + 1) 0 (fusV s (.slice (some ⟨gu, 0, none⟩) 4 4) le (.slice (some ⟨gh, 0, none⟩) 4 4)) _ _ h2 (fun j v hv => ?_) h3 (errno_load _ (w.heap.size + 1) 0 (by rw [World.cell?]; simp only [hb1]; rfl)) Try.underlying27 rfl (by kernel_rfl)
    rw [World.cell?]
    simp only [hb0]
    simpa using hv
  · have h1 := (below_setCells (Nat.le_refl _) (fusV s (.slice (some ⟨gu, 0, none⟩) 4 4) le (.slice (some ⟨gh, 0, none⟩) 4 4)).toArray.toList 0 _ _ f.below).setCell (p := ⟨w.heap.size + 1, 0, none⟩) (by show w.heap.size ≤ w.heap.size + 1; omega) (.int .i64 0)
    exact h1.grown (grownBy_putObj' _ D _) h1.size (fun k e => by cases e; omega)
  · refine ⟨by simp [boolsV], .inr ⟨gu, 4, _, by rw [lU], by omega, by rw [ho gu (by omega) (by omega) (by omega)]; exact f.bu, by omega, by unfold maxLen; omega, by simp [boolsV, lU], ?_⟩⟩
    rw [Nat.mul_one, List.take_of_length_le (by simp [boolsV])]
  · refine ⟨by simp [textsV], .inr ⟨gh, 4, _, by rw [lH], by omega, by rw [ho gh (by omega) (by omega) (by omega)]; exact f.bh, by omega, by unfold maxLen; omega, by simp [textsV, lH], ?_⟩⟩
    rw [Nat.mul_one, List.take_of_length_le (by simp [textsV])]

set_option maxRecDepth 100000 in
set_option maxHeartbeats 8000000 in
theorem read_any (l : List Int) (b off cap : Nat) (w : World) (hr : w.rangeAt b off (cellsI l)) (hl : l.length ≤ 9223372036854775807) (hb : b < w.heap.size) (hcap : l.length ≤ cap) :
    Calls Try.prog 13 #[.slice (some ⟨b, off, none⟩) l.length cap] w fun e w' => ∃ s le u h code, e = .returned (.tuple #[.agg (fusV s u le h).toArray, .int .i64 code]) ∧ Below w.heap.size w w' ∧ FusAns w' w.heap.size l s le u h code := by
  refine (callsIn_wide (n := 3)).1 ?_
  refine callsIn_of_wp_marks Try.func13 rfl trivial ?_ rfl
  refine wpIn_wide.2 ?_
  simp only [Try.ntmps13, List.size_toArray, List.length_cons, List.length_nil, Nat.reduceAdd, Nat.reduceSub, Array.replicate_succ, Array.replicate_zero, List.push_toArray, List.append_toArray, List.nil_append, List.cons_append]
  have Hwd : Hid _ := fun w' (hr : w'.rangeAt b off (cellsI l)) => areWords_any l b off cap w' hr hl
  have Hr : Hid (w.rangeAt b off (cellsI l)) := hr
  have Hb : Hid (b < w.heap.size) := hb
  clear hr hl hb
  go_wp2_with fail
  obtain ⟨W1, hW1⟩ : ∃ W1, (w.alloc (.cells #[.int .i64 0, .slice none 0 0, .int .i64 0, .slice none 0 0] 27)).alloc (.cells #[.int .i64 0] 28) = W1 := ⟨_, rfl⟩
  have HR0 : Hid (R0 w W1 0) := by
    rw [← hW1]
    exact ⟨((Below.refl _ w).alloc (Nat.le_refl _) _).alloc (by simp) _, by simp, by rw [Below.heap_alloc _ _ _ (by simp)]; exact World.alloc_heap_new w _, by have := World.alloc_heap_new (w.alloc (.cells #[.int .i64 0, .slice none 0 0, .int .i64 0, .slice none 0 0] 27)) (.cells #[.int .i64 0] 28); rwa [World.size_alloc] at this⟩
  rw [hW1]
  clear hW1
  refine (Hwd.out _ (range_below HR0.out.below Hb.out Hr.out)).mono ?_
  rintro e w1 ⟨rfl, rfl⟩
  clear Hwd
  cases hA : areB l with
  | false =>
    have HF : Hid (fusF l = (0, [], 0, [], 11)) := by show fusF l = _; rw [fusF, if_neg (by rw [hA]; simp)]
    clear hA
    obtain ⟨m1, m2⟩ := HR0.out.mid
    have Hth : Hid (w1.there w.heap.size 0 zs.toArray.size) := HR0.out.there
    go_wp2_with (refine wpList_store_mid rfl 27 (.tmp 2) (.tmp 13) rfl w.heap.size 0 zs.toArray rfl rfl Hth.out (by kernel_rfl) (by kernel_rfl) ?_)
    exact ⟨_, (HR0.out.set 11).results _ rfl rfl, 0, 0, _, _, 11, rfl, (HR0.out.set 11).below, fusAns_none _ _ _ _ HF.out⟩
  | true =>
    have hAA := hA
    rw [areB, Bool.and_eq_true] at hAA
    have h85 : l.length = 85 := by simpa using hAA.1
    have hwd : ∀ k, k < 85 → 0 ≤ l.getD k 0 ∧ l.getD k 0 < 65536 := fun k hk => by
      have h1 := List.all_eq_true.1 hAA.2 (l.getD k 0) (by rw [List.getD_eq_getElem?_getD, List.getElem?_eq_getElem (by omega)]; exact List.getElem_mem _)
      simp only [wordB, Bool.and_eq_true, decide_eq_true_eq] at h1
      omega
    have Hw : Hid (∀ k, k < 85 → 0 ≤ l.getD k 0 ∧ l.getD k 0 < 65536) := hwd
    have HA : Hid (areB l = true) := hA
    have H85 : Hid (l.length = 85) := h85
    have Hcap : Hid (85 ≤ cap) := by show 85 ≤ cap; omega
    rw [h85]
    have HSt : Hid _ := stateOf_any l b off cap w1 (range_below HR0.out.below Hb.out Hr.out) h85
    have HLs : Hid (∀ n, Calls Try.prog 24 #[.slice (some ⟨b, off, none⟩) 85 cap] (w1.drewN n) fun e w' => (∃ v, e = .returned (.tuple #[.int .i64 v, .bool (decide (0 ≤ leastL l))]) ∧ (0 ≤ leastL l → v = leastL l)) ∧ ∃ m, w' = (w1.drewN n).drewN m) := fun n => by
      have x2 := hwd 2 (by omega)
      have x3 := hwd 3 (by omega)
      have x4 := hwd 4 (by omega)
      exact leastOf_any l _ _ _ b off cap (w1.drewN n) (range_below (HR0.out.drewN n).below Hb.out Hr.out) h85 (Int.toNat_of_nonneg x2.1).symm (Int.toNat_of_nonneg x3.1).symm (Int.toNat_of_nonneg x4.1).symm (by omega) (by omega) (by omega)
    have HK : Hid (okF l = (stateB (l.getD 0 0) (l.getD 1 0) && decide (0 ≤ leastL l) && (List.range 4).all fun k => rightB (placeL l k))) := rfl
    have HN : Hid (okF l = false → fusF l = (0, [], 0, [], 1)) := fun h => by rw [fusF, if_pos HA.out, if_neg (by rw [h]; simp)]
    clear hAA hwd hA h85 hcap
    generalize hsB : stateB (l.getD 0 0) (l.getD 1 0) = sB at *
    generalize hlB : decide (0 ≤ leastL l) = lB at *
    have HsB : Hid (stateB (l.getD 0 0) (l.getD 1 0) = sB) := hsB
    have HlB : Hid (decide (0 ≤ leastL l) = lB) := hlB
    clear hsB hlB
    go_wp2_with fail
    refine Calls.mono HSt.out ?_
    rintro e w2 ⟨⟨s, rfl, hs⟩, n, rfl⟩
    have Hs : Hid (sB = true → s = l.getD 0 0) := hs
    clear HSt hs
    cases sB with
    | false =>
      have HF : Hid (fusF l = (0, [], 0, [], 1)) := HN.out (by rw [HK.out]; simp)
      have HR1 : Hid (R0 w (w1.drewN n) 0) := HR0.out.drewN n
      obtain ⟨m1, m2⟩ := HR1.out.mid
      have Hth : Hid ((w1.drewN n).there w.heap.size 0 zs.toArray.size) := HR1.out.there
      go_wp2_with (refine wpList_store_mid rfl 27 (.tmp 2) (.tmp 21) rfl w.heap.size 0 zs.toArray rfl rfl Hth.out (by kernel_rfl) (by kernel_rfl) ?_)
      exact ⟨_, (HR1.out.set 1).results _ rfl rfl, 0, 0, _, _, 1, rfl, (HR1.out.set 1).below, fusAns_none _ _ _ _ HF.out⟩
    | true =>
      go_wp2_with fail
      refine Calls.mono (HLs.out n) ?_
      rintro e w2 ⟨⟨v, rfl, hv⟩, m, rfl⟩
      have Hv : Hid (0 ≤ leastL l → v = leastL l) := hv
      clear HLs hv
      have HR1 : Hid (R0 w ((w1.drewN n).drewN m) 0) := (HR0.out.drewN n).drewN m
      clear HR0
      generalize (w1.drewN n).drewN m = W2 at *
      cases lB with
      | false =>
        have HF : Hid (fusF l = (0, [], 0, [], 1)) := HN.out (by rw [HK.out]; simp)
        obtain ⟨m1, m2⟩ := HR1.out.mid
        have Hth : Hid (W2.there w.heap.size 0 zs.toArray.size) := HR1.out.there
        go_wp2_with (refine wpList_store_mid rfl 27 (.tmp 2) (.tmp 29) rfl w.heap.size 0 zs.toArray rfl rfl Hth.out (by kernel_rfl) (by kernel_rfl) ?_)
        exact ⟨_, (HR1.out.set 1).results _ rfl rfl, 0, 0, _, _, 1, rfl, (HR1.out.set 1).below, fusAns_none _ _ _ _ HF.out⟩
      | true =>
        have Hs' : Hid (s = l.getD 0 0) := Hs.out (by trivial)
        have Hv' : Hid (v = leastL l) := Hv.out (by simpa using HlB.out)
        clear Hs Hv
        go_upto_region 9 with fail
        go_cut [7] from 30 to 34 (fun p M => ∃ g7 gu gh, p = .pointer (some ⟨g7, 0, none⟩) ∧ Rd w M g7 gu gh s v [false, false, false, false] [[], [], [], []])
        case first =>
          have hs2 := HR1.out.size
          have hmB := Try.makeB
          have hmT := Try.makeT
          go_region
          all_goals (go_wp2_with fail; go_meet)
          all_goals
            exact ⟨_, _, _, rfl, Rd.make HR1.out (three _ _ _ _).2 (by first | exact (three _ _ _ _).1.1 | exact (three _ _ _ _).1.2.1 | exact (three _ _ _ _).1.2.2) (by first | exact (three _ _ _ _).1.1 | exact (three _ _ _ _).1.2.1 | exact (three _ _ _ _).1.2.2) (by first | exact (three _ _ _ _).1.1 | exact (three _ _ _ _).1.2.1 | exact (three _ _ _ _).1.2.2) (by omega) (by omega) (by omega) (by omega) (by omega) (by omega)⟩
        case rest =>
          obtain ⟨g7, gu, gh, rfl, hRd⟩ := hcut
          have HRd : Hid _ := hRd
          clear hRd HR1
          go_wp2_with fail
          refine Calls.mono (places_any _ _ _ _) ?_
          rintro e wp ⟨rfl, rfl⟩
          go_wp2_with fail
          have hBs : (wc.alloc (.cells #[.slice (some ⟨b, off, none⟩) 85 cap] 22)).cell? ⟨wc.heap.size, 0, none⟩ = some (.slice (some ⟨b, off, none⟩) 85 cap) := by rw [World.cell?, World.alloc_heap_new]; rfl
          have h7 := heap_lt HRd.out.b7
          have hgu := heap_lt HRd.out.bu
          have hgh := heap_lt HRd.out.bh
          have hww := HRd.out.below.size
          have hw2 : w.heap.size + 2 ≤ wc.heap.size := by have := HRd.out.l7; omega
          have hR1 : Rd w (wc.alloc (.cells #[.slice (some ⟨b, off, none⟩) 85 cap] 22)) g7 gu gh s v (useL l []) (hshL l []) := HRd.out.calm ((Below.refl _ wc).alloc (Nat.le_refl _) _)
          clear HRd
          refine (wpIn_wide (n := 3)).1 ?_
          refine wpIn_rangeFunc_ownG rfl (by omega) (gf := 33) (lb := #[.pointer (some ⟨wc.heap.size, 0, none⟩)]) rfl trivial (enters_of Try.func33 (by kernel_rfl) rfl)
            (places_stops Fence.wide (3 - 1) trivial rfl (by omega) wc.heap.size b off cap Hcap.out _ (by simp) hBs) kc_t (kc_b (by simp)) (Below.refl _ _) (fun _ => rfl)
            (fun pre W => Rd w W g7 gu gh s v (useL l pre) (hshL l pre) ∧ (∀ x ∈ pre, rightB (placeL l x.1) = true) ∧ wc.heap.size < W.heap.size)
            (fun c pre W => c = .ret ∧ R0 w W 1 ∧ okF l = false)
            ?hI ?hIx ?h0
            (fun x => { tmps := #[.slice (some ⟨b, off, none⟩) 85 cap, undef, .pointer (some ⟨w.heap.size, 0, none⟩), .pointer (some ⟨w.heap.size + 1, 0, none⟩), .int .i64 s, .bool true, .int .i64 v, .pointer (some ⟨g7, 0, none⟩), .int .i64 x.1, .slice (some ⟨b, off + (5 + 20 * x.1), none⟩) 20 (cap - (5 + 20 * x.1)),
              .slice (some ⟨b, off, none⟩) 85 cap, .bool true, .bool false, undef, .tuple #[.int .i64 s, .bool true], .slice (some ⟨b, off, none⟩) 85 cap, .tuple #[.int .i64 s, .bool true], .int .i64 s, .bool true, .bool true, .bool false, undef, .tuple #[.int .i64 v, .bool true], .slice (some ⟨b, off, none⟩) 85 cap, .tuple #[.int .i64 v, .bool true], .int .i64 v, .bool true, .bool true, .bool false, undef,
              u30, u31, u32, u33, u34, .slice (some ⟨b, off, none⟩) 85 cap, .func (.func 33) #[] #[.pointer (some ⟨wc.heap.size, 0, none⟩)], .int .i64 x.1, .slice (some ⟨b, off + (5 + 20 * x.1), none⟩) 20 (cap - (5 + 20 * x.1)), undef, undef, undef, undef, undef, undef, undef, undef, undef, undef, undef, undef, undef, undef, undef, undef, undef], defers := [] })
            ?assign ?body ?done ?stop
          case hI => exact fun pre A B row hs hg hr => ⟨hs.1.own (B := (wc.alloc (.cells #[.slice (some ⟨b, off, none⟩) 85 cap] 22)).heap.size) (by simp; omega) hg hr, hs.2.1, Nat.lt_of_lt_of_le hs.2.2 hg.size⟩
          case hIx => exact fun c pre A B row hs hg hr => ⟨hs.1, hs.2.1.own (B := (wc.alloc (.cells #[.slice (some ⟨b, off, none⟩) 85 cap] 22)).heap.size) (by simp; omega) hg hr, hs.2.2⟩
          case h0 => exact ⟨hR1, (fun x hx => by cases hx), by simp⟩
          case assign =>
            intro l x W K hK
            dsimp only [encP]
            gi_wp2
            exact hK
          case body =>
            rintro l' pre ⟨k, hk4⟩ W ⟨hRd, hok, hsz⟩ hlt
            dsimp only
            have hrW := range_below hRd.below Hb.out Hr.out
            have hlen : (placeL l k).length = 20 := place_len H85.out hk4
            have HrP : Hid (W.rangeAt b (off + (5 + 20 * k)) (cellsI (placeL l k))) := range_place hrW k
            have Hlen : Hid ((placeL l k).length = 20) := hlen
            have HC : Hid (Calls Try.prog 26 #[.slice (some ⟨b, off + (5 + 20 * k), none⟩) 20 (cap - (5 + 20 * k))] W fun e w' => e = .returned (.bool (rightB (placeL l k))) ∧ ∃ n, w' = W.drewN n) := right_any' (placeL l k) b _ _ W HrP.out hlen
            have HRd : Hid (Rd w W g7 gu gh s v (useL l pre) (hshL l pre)) := hRd
            have Hok : Hid (∀ x ∈ pre, rightB (placeL l x.1) = true) := hok
            have Hsz : Hid (wc.heap.size < W.heap.size) := hsz
            clear hrW hlen hRd hok hsz
            refine wpIn_block ?_
            refine wpIn_seq_k ?_
            intro K hK
            have HK2 : Hid _ := hK
            clear hK
            have HR0 : Hid (R0 w W 0) := R0.ofRd HRd.out
            generalize hq : rightB (placeL l k) = q at HC
            have Hq : Hid (rightB (placeL l k) = q) := hq
            clear hq
            cases q with
            | false =>
              have Hth : Hid (∀ n, (W.drewN n).there w.heap.size 0 zs.toArray.size) := fun n => (HR0.out.drewN n).there
              gi_wp2_with (first
                | (refine ⟨trivial, ?_⟩; gi_at_call 26; refine (CallsIn.inRound l' (callsIn_wide.2 HC.out)).mono ?_; rintro e w' ⟨rfl, n1, rfl⟩; obtain ⟨m1, m2⟩ := (HR0.out.drewN n1).mid)
                | refine wpListIn_store_mid (by rfl) 27 (.tmp 2) (.tmp 42) (by rfl) w.heap.size 0 zs.toArray (by rfl) (by rfl) (by exact Hth.out _) (by kernel_rfl) (by kernel_rfl) ?_)
              exact ⟨keeps_two (by simp; omega) _ _ _ _, rfl, (HR0.out.drewN n1).set 1, by rw [HK.out, okF_no hk4 Hq.out]; rfl⟩
            | true =>
              gi_wp2_with (refine ⟨trivial, ?_⟩; gi_at_call 26; refine (CallsIn.inRound l' (callsIn_wide.2 HC.out)).mono ?_; rintro e w' ⟨rfl, n1, rfl⟩)
              refine HK2.out _ _ ?_
              have HKe : Hid (KeepsFrom (wc.heap.size + 1) W (W.drewN n1) ∧ KC wc.heap.size W (W.drewN n1)) := ⟨⟨Nat.le_refl _, fun _ _ _ h _ => h⟩, rfl⟩
              have HM : Hid (Rd w (W.drewN n1) g7 gu gh s v (useL l pre) (hshL l pre)) := HRd.out.drewN n1
              have HszM : Hid (wc.heap.size < (W.drewN n1).heap.size) := Hsz.out
              have HrM : Hid ((W.drewN n1).rangeAt b (off + (5 + 20 * k)) (cellsI (placeL l k))) := HrP.out
              clear HC HR0 HRd Hsz HrP
              generalize W.drewN n1 = M at *
              have hk0 : (0 : Int) ≤ (k : Int) := by omega
              have hk4' : (k : Int) < 4 := by omega
              refine wpIn_seq ?_
              refine region_round (S := fun M' => M'.cell? ⟨g7, 1, none⟩ = some (.slice (some ⟨gu, 0, none⟩) 4 4)) (by kernel_rfl) (by kernel_rfl) (fun ⟨_, _, h⟩ => h) ?_
              change wpAnyH _ _ _ _ _ _ _ _ (World.drew M)
              have HS : Hid ((World.drew M).cell? ⟨g7, 1, none⟩ = some (.slice (some ⟨gu, 0, none⟩) 4 4)) := by show M.cell? _ = _; rw [World.cell?]; simp only [HM.out.b7]; rfl
              refine wpAnyH_take (i := 0) (v := .pointer (some ⟨g7, 1, none⟩)) rfl (by kernel_rfl) (by kernel_rfl) (by kernel_rfl) (fun _ _ _ h => h) (Or.inl ⟨by rfl, by intro w hS; go_simp⟩) HS.out ?_
              refine wpAnyH_take (i := 1) (v := .slice (some ⟨gu, 0, none⟩) 4 4) rfl (by kernel_rfl) (by kernel_rfl) (by kernel_rfl) (fun _ _ _ h => h) (Or.inl ⟨by rfl, by intro w hS; go_simp⟩) HS.out ?_
              refine wpAnyH_take (i := 2) (v := .int .i64 k) rfl (by kernel_rfl) (by kernel_rfl) (by kernel_rfl) (fun _ _ _ h => h) (Or.inl ⟨by rfl, by intro w hS; go_simp⟩) HS.out ?_
              refine wpAnyH_take (i := 3) (v := .slice (some ⟨b, off + (5 + 20 * k), none⟩) 20 (cap - (5 + 20 * k))) rfl (by kernel_rfl) (by kernel_rfl) (by kernel_rfl) (fun _ _ _ h => h) (Or.inl ⟨by rfl, by intro w hS; go_simp⟩) HS.out ?_
              refine wpAnyH_all (rs := [4]) (by kernel_rfl) (List.cons_ne_nil _ _) (all_one (wpOp_run rfl rfl (wp_call 27 #[.slice (some ⟨b, off + (5 + 20 * k), none⟩) 20 (cap - (5 + 20 * k))] (by go_simp) (.bool (usableB (placeL l k))) (fun w' => w' = World.drew M) (usable_any (placeL l k) b _ _ (World.drew M) HrM.out Hlen.out) (fun w2 hw2 => ?_))))
              subst hw2
              refine ⟨HS.out, ?_⟩
              refine wpAnyH_take (i := 5) (v := .pointer (some ⟨gu, k, none⟩)) rfl (by kernel_rfl) (by kernel_rfl) (by kernel_rfl) (fun _ _ _ h => h) (Or.inl ⟨by rfl, by intro w hS; go_simp⟩) HS.out ?_
              refine wpAnyH_all (rs := [6]) (by kernel_rfl) (List.cons_ne_nil _ _) (all_one (wpOp_store_one (by rfl) (by rfl) 4 (.tmp 48) (.tmp 47) (by rfl) gu k (.bool (usableB (placeL l k))) (by go_simp) (by go_simp) rfl rfl ?hc ?hf (by kernel_rfl) (by rfl) ?hn))
              case hc => exact (HM.out.cellU hk4).1
              case hf => exact (HM.out.cellU hk4).2
              refine ⟨?hS, ?_⟩
              case hS => show (M.setCell _ _).cell? _ = _; rw [World.cell?]; simp only [heap_set_other (fun e => HM.out.u7 e.symm), HM.out.b7]; rfl
              refine wpAnyH_done (by kernel_rfl) ?_ _
              refine (?_ : Code.wpIn _ _ _ _ _ _ _)
              have HM2 : Hid (Rd w ((World.drew M).setCell ⟨gu, k, none⟩ (.bool (usableB (placeL l k)))) g7 gu gh s v (useL l (pre ++ [⟨k, hk4⟩])) (hshL l pre)) := by
                show Rd _ _ _ _ _ _ _ _ _
                rw [useL_snoc]; exact (HM.out.drewN 1).setU k _
              have HKe2 : Hid (KeepsFrom (wc.heap.size + 1) W ((World.drew M).setCell ⟨gu, k, none⟩ (.bool (usableB (placeL l k)))) ∧ KC wc.heap.size W ((World.drew M).setCell ⟨gu, k, none⟩ (.bool (usableB (placeL l k))))) :=
                ⟨HKe.out.1.trans (⟨Nat.le_refl _, fun _ _ _ h _ => h⟩ : KeepsFrom _ M (World.drew M)) |>.trans (keeps_set _ _ _ _ _), kc_set (M := World.drew M) HKe.out.2 (by omega)⟩
              have Hsz2 : Hid (wc.heap.size < ((World.drew M).setCell ⟨gu, k, none⟩ (.bool (usableB (placeL l k)))).heap.size) := by show _ < _; rw [World.size_setCell]; exact HszM.out
              have HrM2 : Hid (((World.drew M).setCell ⟨gu, k, none⟩ (.bool (usableB (placeL l k)))).rangeAt b (off + (5 + 20 * k)) (cellsI (placeL l k))) := range_place (range_below HM2.out.below Hb.out Hr.out) k
              clear HM HKe HszM HrM HS
              generalize (World.drew M).setCell ⟨gu, k, none⟩ (.bool (usableB (placeL l k))) = M2 at *
              refine region_round (S := fun M' => M'.cell? ⟨g7, 3, none⟩ = some (.slice (some ⟨gh, 0, none⟩) 4 4)) (by kernel_rfl) (by kernel_rfl) (fun ⟨_, _, h⟩ => h) ?_
              change wpAnyH _ _ _ _ _ _ _ _ (World.drew M2)
              have HS : Hid ((World.drew M2).cell? ⟨g7, 3, none⟩ = some (.slice (some ⟨gh, 0, none⟩) 4 4)) := by show M2.cell? _ = _; rw [World.cell?]; simp only [HM2.out.b7]; rfl
              have HwP : Hid (∀ j, j < 20 → 0 ≤ (placeL l k).getD j 0 ∧ (placeL l k).getD j 0 < 65536) := fun j hj => by rw [place_getD l k hj]; exact Hw.out _ (by omega)
              have Hbm : Hid (b < (World.drew M2).heap.size) := by show b < M2.heap.size; have := Hb.out; have := HM2.out.below.size; omega
              have Hcp : Hid (20 ≤ cap - (5 + 20 * k)) := by show _ ≤ _; have := Hcap.out; omega
              refine wpAnyH_take (i := 0) (v := .pointer (some ⟨g7, 3, none⟩)) rfl (by kernel_rfl) (by kernel_rfl) (by kernel_rfl) (fun _ _ _ h => h) (Or.inl ⟨by rfl, by intro w hS; go_simp⟩) HS.out ?_
              refine wpAnyH_take (i := 1) (v := .slice (some ⟨gh, 0, none⟩) 4 4) rfl (by kernel_rfl) (by kernel_rfl) (by kernel_rfl) (fun _ _ _ h => h) (Or.inl ⟨by rfl, by intro w hS; go_simp⟩) HS.out ?_
              refine wpAnyH_take (i := 2) (v := .int .i64 k) rfl (by kernel_rfl) (by kernel_rfl) (by kernel_rfl) (fun _ _ _ h => h) (Or.inl ⟨by rfl, by intro w hS; go_simp⟩) HS.out ?_
              refine wpAnyH_take (i := 3) (v := .slice (some ⟨b, off + (5 + 20 * k), none⟩) 20 (cap - (5 + 20 * k))) rfl (by kernel_rfl) (by kernel_rfl) (by kernel_rfl) (fun _ _ _ h => h) (Or.inl ⟨by rfl, by intro w hS; go_simp⟩) HS.out ?_
              refine wpAnyH_all (rs := [4]) (by kernel_rfl) (List.cons_ne_nil _ _) (all_one (wpOp_run rfl rfl (wp_call 28 #[.slice (some ⟨b, off + (5 + 20 * k), none⟩) 20 (cap - (5 + 20 * k))] (by go_simp) (.string ⟨(hashL ((placeL l k).drop 4)).toArray⟩) (fun w' => Below (World.drew M2).heap.size (World.drew M2) w') (hash_any (placeL l k) b _ _ (World.drew M2) HrM2.out Hlen.out HwP.out Hbm.out Hcp.out) (fun M3 hw3 => ?_))))
              have HM3 : Hid (Rd w M3 g7 gu gh s v (useL l (pre ++ [⟨k, hk4⟩])) (hshL l pre)) := (HM2.out.drewN 1).calm hw3
              have HS3 : Hid (M3.cell? ⟨g7, 3, none⟩ = some (.slice (some ⟨gh, 0, none⟩) 4 4)) := by show M3.cell? _ = _; rw [World.cell?]; simp only [HM3.out.b7]; rfl
              have HKe3 : Hid (KeepsFrom (wc.heap.size + 1) W M3 ∧ KC wc.heap.size W M3) :=
                ⟨HKe2.out.1.trans (⟨Nat.le_refl _, fun _ _ _ h _ => h⟩ : KeepsFrom _ M2 (World.drew M2)) |>.trans (keeps_below hw3), (hw3.cell (p := ⟨wc.heap.size, 0, none⟩) Hsz2.out).trans HKe2.out.2⟩
              have Hsz3 : Hid (wc.heap.size < M3.heap.size) := Nat.lt_of_lt_of_le Hsz2.out hw3.size
              clear HM2 HKe2 Hsz2 HrM2 hw3 HS
              refine ⟨HS3.out, ?_⟩
              refine wpAnyH_take (i := 5) (v := .pointer (some ⟨gh, k, none⟩)) rfl (by kernel_rfl) (by kernel_rfl) (by kernel_rfl) (fun _ _ _ h => h) (Or.inl ⟨by rfl, by intro w hS; go_simp⟩) HS3.out ?_
              refine wpAnyH_all (rs := [6]) (by kernel_rfl) (List.cons_ne_nil _ _) (all_one (wpOp_store_one (by rfl) (by rfl) 9 (.tmp 54) (.tmp 53) (by rfl) gh k (.string ⟨(hashL ((placeL l k).drop 4)).toArray⟩) (by go_simp) (by go_simp) rfl rfl ?hc2 ?hf2 (by kernel_rfl) (by rfl) ?hn2))
              case hc2 => exact (HM3.out.cellH hk4).1
              case hf2 => exact (HM3.out.cellH hk4).2
              refine ⟨?hS2, ?_⟩
              case hS2 => show (M3.setCell _ _).cell? _ = _; rw [World.cell?]; simp only [heap_set_other (fun e => HM3.out.h7 e.symm), HM3.out.b7]; rfl
              refine wpAnyH_done (by kernel_rfl) ?_ _
              refine ⟨by simpa using HKe3.out.1.trans (keeps_set _ _ _ _ _), kc_set HKe3.out.2 (by omega), ?_, fun y hy => ?_, by rw [World.size_setCell]; exact Hsz3.out⟩
              · rw [hshL_snoc]; exact HM3.out.setH k _
              · rcases List.mem_append.1 hy with hy | hy
                · exact Hok.out y hy
                · rw [List.mem_singleton] at hy; subst hy; exact Hq.out
          case done =>
            rintro D xs W hD rfl ⟨hRd, hok, hsz⟩ hDf
            have HRd : Hid (Rd w W g7 gu gh s v (useL l (fours 4)) (hshL l (fours 4))) := hRd
            have Hok : Hid (∀ x ∈ fours 4, rightB (placeL l x.1) = true) := hok
            clear hRd hok
            have HR0 : Hid (R0 w W 0) := R0.ofRd HRd.out
            have Hth : Hid (W.there w.heap.size 0 (fusV s (.slice (some ⟨gu, 0, none⟩) 4 4) v (.slice (some ⟨gh, 0, none⟩) 4 4)).toArray.size) := HR0.out.there
            have Hrg : Hid (W.rangeAt g7 0 (fusV s (.slice (some ⟨gu, 0, none⟩) 4 4) v (.slice (some ⟨gh, 0, none⟩) 4 4))) := HRd.out.range7
            obtain ⟨m1, m2⟩ := HR0.out.mid' s v (.slice (some ⟨gu, 0, none⟩) 4 4) (.slice (some ⟨gh, 0, none⟩) 4 4)
            go_wp2_with (first
              | refine wpList_load_mid (by rfl) 27 (.tmp 7) (by rfl) g7 0 (by rfl) (fusV s (.slice (some ⟨gu, 0, none⟩) 4 4) v (.slice (some ⟨gh, 0, none⟩) 4 4)) _ (by exact Hrg.out) (by exact Try.underlying27) (by rfl) (by kernel_rfl) ?_
              | refine wpList_store_mid (by rfl) 27 (.tmp 2) (.tmp 55) (by rfl) w.heap.size 0 (fusV s (.slice (some ⟨gu, 0, none⟩) 4 4) v (.slice (some ⟨gh, 0, none⟩) 4 4)).toArray (by rfl) (by rfl) (by exact Hth.out) (by kernel_rfl) (by kernel_rfl) ?_)
            have hD' : wc.heap.size + 1 ≤ D := by simpa using hD
            refine ⟨by simp, .inl ⟨_, _, rfl, run_takeDeferred (b := D) (ds := []) (by rw [heap_set_other (by omega), heap_sets_other (by omega)]; exact hDf), ?_⟩⟩
            have hE := rd_end HRd.out hD' hw2 hgu hgh
            refine ⟨_, hE.1 _ rfl rfl, _, _, _, _, _, rfl, hE.2.1, useL l (fours 4), hshL l (fours 4), hE.2.2.1, hE.2.2.2, ?_⟩
            rw [fusF, if_pos HA.out, if_pos (by rw [HK.out]; exact okF_yes Hok.out), Hs'.out, Hv'.out]
            rfl
          case stop =>
            rintro D c pre W hD _ ⟨rfl, hR0, hno⟩ hDf
            have HR0 : Hid (R0 w W 1) := hR0
            clear hR0
            refine wpIn_wide.2 ?_
            go_wp2_with fail
            have hD' : wc.heap.size + 1 ≤ D := by simpa using hD
            refine ⟨by simp, .inl ⟨_, _, rfl, run_takeDeferred hDf, ?_⟩⟩
            have hR := HR0.out.own (B := wc.heap.size) (by omega) (grownBy_putObj' W D (.deferred none)) (fun r e => by cases e; exact ⟨by omega, _, hDf, rfl⟩)
            exact ⟨_, hR.results _ rfl rfl, 0, 0, _, _, 1, rfl, hR.below, fusAns_none _ _ _ _ (HN.out hno)⟩

end Go.Proofs.Ytkmoglhgkcnalaa
