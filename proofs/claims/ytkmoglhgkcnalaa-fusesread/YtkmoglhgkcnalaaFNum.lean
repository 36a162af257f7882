/- The law's numbers: the same numbers, with spare room. -/
import Derived.Test.YtkmoglhgkcnalaaFPlain
import Derived.Laws.IdiomCopy
namespace Go.Proofs.Ytkmoglhgkcnalaa
open Go.RowKit

theorem Try.infoInt : (Try.prog.info? 3).map (fun i => (i.zero, i.size, i.bytes)) = some (some (.int .i64 0), 1, 8) := by kernel_rfl

theorem range_set {w : World} {b k : Nat} {L : List Value} (h : w.rangeAt b 0 L) (v : Value) : (w.setCell ⟨b, k, none⟩ v).rangeAt b 0 (L.set k v) := fun j u hu => by
  rw [Nat.zero_add]
  have hj : j < L.length := by have := (List.getElem?_eq_some_iff.1 hu).1; simpa using this
  have ho := h j _ (List.getElem?_eq_getElem hj)
  rw [Nat.zero_add] at ho
  by_cases e : k = j
  · subst e
    rw [World.cell?_setCell_same _ _ _ ho]
    simp [hj] at hu
    rw [hu]
  · rw [World.cell?_setCell_other _ _ _ _ (fun h => e (by injection h)), ho]
    rw [List.getElem?_set_ne e, List.getElem?_eq_getElem hj] at hu
    exact hu


/-- the list in the making: k of its four last cells are written -/
def numL (l : List Int) (k : Nat) : List Int := l ++ List.replicate k 77 ++ List.replicate (4 - k) 0
theorem numL_length (l : List Int) (k : Nat) (h : k ≤ 4) : (numL l k).length = l.length + 4 := by simp [numL]; omega
theorem numL_set (l : List Int) (k : Nat) (h : k < 4) : (numL l k).set (l.length + k) 77 = numL l (k + 1) := by
  rw [numL, numL, List.append_assoc, List.set_append_right _ _ (by omega), List.set_append_right _ _ (by simp), List.append_assoc]
  congr 1
  simp only [List.length_replicate, Nat.add_sub_cancel_left, Nat.sub_self]
  rw [show 4 - k = (4 - (k + 1)) + 1 from by omega, List.replicate_succ, List.set_cons_zero, List.replicate_succ', List.append_assoc]
  rfl

set_option maxRecDepth 100000 in
set_option maxHeartbeats 1000000 in
theorem numbers_any (l : List Int) (b off cap : Nat) (w : World) (hr : w.rangeAt b off (cellsI l)) (hl : l.length ≤ 20000000000000) :
    Calls Try.prog 5 #[.slice (some ⟨b, off, none⟩) l.length cap] w fun e w' => e = .returned (.slice (some ⟨w.heap.size, 0, none⟩) l.length (l.length + 4)) ∧ w'.rangeAt w.heap.size 0 (cellsI (l ++ [77, 77, 77, 77])) ∧ Below w.heap.size w w' ∧ w.heap.size < w'.heap.size := by
  have hw4 : IntKind.i64.wrap ((l.length : Int) + 4) = ((l.length + 4 : Nat) : Int) := by rw [wrap_small _ (by omega) (by omega)]; omega
  have hmk := fun w => run_make_row' (P := Try.prog) 22 3 (.int .i64 0) 8 Try.underlying22 Try.infoInt rfl .i64 .i64 (l.length + 4) (by omega) (by omega) w
  rw [show ((l.length + 4 : Nat) : Int) = (l.length : Int) + 4 from by omega] at hmk
  have Hr : Hid (w.rangeAt b off (cellsI l)) := hr
  clear hr
  have hcp := run_copy_cells (P := Try.prog) (w.alloc (.cells (madeCells #[.int .i64 0] (l.length + 4)) 3)) 22 22 3 3 w.heap.size 0 (l.length + 4) (l.length + 4) ⟨b, off, none⟩ l.length cap (cellsI l)
    Try.underlying22 (by kernel_rfl) (by rw [cellsI_length]; exact (Nat.min_eq_left (by omega)).symm)
    (fun j v hv => by rw [Addr.add_mid]; exact World.rangeAt_alloc Hr.out _ j v hv)
    (fun j hj => by rw [cellsI_length] at hj; have := there_new w (madeCells #[.int .i64 0] (l.length + 4)) 3 w.heap.size (l.length + 4) rfl (by rw [madeCells_one]; simp) j (by omega); exact this.1)
    (fun j hj => by rw [cellsI_length] at hj; have := there_new w (madeCells #[.int .i64 0] (l.length + 4)) 3 w.heap.size (l.length + 4) rfl (by rw [madeCells_one]; simp) j (by omega); exact this.2)
    (cellsI_one l)
  go_enter Try.func5, Try.ntmps5
  go_wp2_with fail
  obtain ⟨W, hW⟩ : ∃ W, W = (w.alloc (.cells (madeCells #[.int .i64 0] (l.length + 4)) 3)).setCells w.heap.size 0 (cellsI l) := ⟨_, rfl⟩
  have ht0 := there_new w (madeCells #[.int .i64 0] (l.length + 4)) 3 w.heap.size (l.length + 4) rfl (by rw [madeCells_one]; simp)
  have HW0 : Hid (W.rangeAt w.heap.size 0 (cellsI (numL l 0)) ∧ W.there w.heap.size 0 (l.length + 4) ∧ Below w.heap.size w W ∧ w.heap.size < W.heap.size) := by
    rw [hW]
    refine ⟨fun j v hv => ?_, World.there_setCells ht0 _ _ _, below_setCells (Nat.le_refl _) _ _ _ _ ((Below.refl _ _).alloc (Nat.le_refl _) _), ?_⟩
    · rw [numL, List.replicate_zero, List.append_nil, cellsI, List.map_append] at hv
      by_cases hj : j < l.length
      · have h5 := World.cell?_setCells_in w.heap.size (cellsI l) 0 _ (fun i hi => (ht0 i (by rw [cellsI_length] at hi; omega)).1) j (by rw [cellsI_length]; exact hj)
        rw [h5]
        rw [List.getElem?_append_left (by simpa using hj)] at hv
        rw [← hv]
        exact (List.getElem?_eq_getElem _).symm
      · rw [World.cell?_setCells_out _ _ _ _ _ (fun _ _ => .inr (by rw [cellsI_length]; show 0 + l.length ≤ 0 + j; omega)), World.cell?_alloc_at _ _ _ _ rfl, madeCells_one]
        rw [List.getElem?_append_right (by simpa using hj), List.map_replicate, List.getElem?_replicate] at hv
        simp only [List.length_map] at hv
        split at hv
        · rename_i h6
          have h7 : j < l.length + 4 := by omega
          simp [h7]
          simpa using hv
        · cases hv
    · have h5 := (below_setCells (Nat.le_refl w.heap.size) (cellsI l) 0 _ _ (Below.refl _ (w.alloc (.cells (madeCells #[.int .i64 0] (l.length + 4)) 3)))).size
      rw [World.size_alloc] at h5
      omega
  rw [← hW]
  clear hW ht0 hcp hmk
  go_loopw [4] (fun i wr => ∃ k : Nat, k ≤ 4 ∧ i = .int .i64 k ∧ wr.rangeAt w.heap.size 0 (cellsI (numL l k)) ∧ wr.there w.heap.size 0 (l.length + 4) ∧ Below w.heap.size w wr ∧ w.heap.size < wr.heap.size) (fun i _ => 4 - (intOf i).toNat)
  case atStart => exact ⟨0, by omega, rfl, HW0.out⟩
  case round =>
    obtain ⟨k, hk, rfl, h1, h2, h3, h4⟩ := hrel
    by_cases hlt : k < 4
    · have hlt' : (k : Int) < 4 := by omega
      have hw5 : IntKind.i64.wrap ((l.length : Int) + (k : Int)) = ((l.length + k : Nat) : Int) := by rw [wrap_small _ (by omega) (by omega)]; omega
      have hb5 : ((l.length + k : Nat) : Int) < ((l.length + 4 : Nat) : Int) := by omega
      have c1 := (h2 (l.length + k) (by omega)).1
      have f1 := (h2 (l.length + k) (by omega)).2
      have cv := rangeI0 h1 (l.length + k) (by rw [numL_length l k hk]; omega)
      rw [Nat.zero_add] at c1 f1
      have H1 : Hid _ := h1
      have H2 : Hid (wr.there w.heap.size 0 (l.length + 4)) := h2
      have H3 : Hid (Below w.heap.size w wr) := h3
      have H4 : Hid (w.heap.size < wr.heap.size) := h4
      clear h1 h2 h3 h4
      go_wp2_with fail
      go_roundw
      case rel => exact ⟨k + 1, by omega, by go_num, by rw [← numL_set l k hlt, ← setI]; exact range_set H1.out _, World.there_setCells H2.out w.heap.size (l.length + k) [.int .i64 77], H3.out.setCell (p := ⟨w.heap.size, l.length + k, none⟩) (Nat.le_refl _) _, by have := H4.out; simpa [World.setCell] using this⟩
      case measure => simp [intOf]; omega
    · have hk4 : k = 4 := by omega
      subst hk4
      have hlt' : ¬ ((4 : Nat) : Int) < 4 := by decide
      have H1 : Hid (wr.rangeAt w.heap.size 0 (cellsI (l ++ [77, 77, 77, 77]))) := by
        have e : numL l 4 = l ++ [77, 77, 77, 77] := by rw [numL]; simp [List.replicate]
        rw [e] at h1; exact h1
      have H3 : Hid (Below w.heap.size w wr) := h3
      have H4 : Hid (w.heap.size < wr.heap.size) := h4
      clear h1 h2 h3 h4
      go_wp2_with fail
      go_ret
      exact ⟨rfl, H1.out, H3.out, H4.out⟩

set_option maxRecDepth 100000 in
set_option maxHeartbeats 1000000 in
theorem numbers_nil (al : Option Addr) (cap : Nat) (w : World) :
    Calls Try.prog 5 #[.slice al 0 cap] w fun e w' => e = .returned (.slice (some ⟨w.heap.size, 0, none⟩) 0 4) ∧ w'.rangeAt w.heap.size 0 (cellsI [77, 77, 77, 77]) ∧ Below w.heap.size w w' ∧ w.heap.size < w'.heap.size := by
  have hmk := fun w => run_make_row' (P := Try.prog) 22 3 (.int .i64 0) 8 Try.underlying22 Try.infoInt rfl .i64 .i64 4 (by omega) (by omega) w
  rw [show ((4 : Nat) : Int) = 4 from rfl] at hmk
  have hcp := run_copy_none (P := Try.prog) (w.alloc (.cells (madeCells #[.int .i64 0] 4) 3)) 22 22 3 3 (some ⟨w.heap.size, 0, none⟩) al 4 4 0 cap Try.underlying22 (by kernel_rfl) (by simp)
  go_enter Try.func5, Try.ntmps5
  go_wp2_with fail
  obtain ⟨W, hW⟩ : ∃ W, W = w.alloc (.cells (madeCells #[.int .i64 0] 4) 3) := ⟨_, rfl⟩
  have ht0 := there_new w (madeCells #[.int .i64 0] 4) 3 w.heap.size 4 rfl (by rw [madeCells_one]; simp)
  have HW0 : Hid (W.rangeAt w.heap.size 0 (cellsI (numL [] 0)) ∧ W.there w.heap.size 0 4 ∧ Below w.heap.size w W ∧ w.heap.size < W.heap.size) := by
    rw [hW]
    refine ⟨fun j v hv => ?_, ht0, (Below.refl _ _).alloc (Nat.le_refl _) _, by simp⟩
    rw [World.cell?_alloc_at _ _ _ _ rfl, madeCells_one, Nat.zero_add]
    simpa [numL, cellsI] using hv
  rw [← hW]
  clear hW ht0 hcp hmk
  go_loopw [4] (fun i wr => ∃ k : Nat, k ≤ 4 ∧ i = .int .i64 k ∧ wr.rangeAt w.heap.size 0 (cellsI (numL [] k)) ∧ wr.there w.heap.size 0 4 ∧ Below w.heap.size w wr ∧ w.heap.size < wr.heap.size) (fun i _ => 4 - (intOf i).toNat)
  case atStart => exact ⟨0, by omega, rfl, HW0.out⟩
  case round =>
    obtain ⟨k, hk, rfl, h1, h2, h3, h4⟩ := hrel
    by_cases hlt : k < 4
    · have hlt' : (k : Int) < 4 := by omega
      have c1 := (h2 k (by omega)).1
      have f1 := (h2 k (by omega)).2
      have cv := rangeI0 h1 k (by rw [numL_length [] k hk]; simp; omega)
      rw [Nat.zero_add] at c1 f1
      have H1 : Hid (wr.rangeAt w.heap.size 0 (cellsI (numL [] k))) := h1
      have H2 : Hid (wr.there w.heap.size 0 4) := h2
      have H3 : Hid (Below w.heap.size w wr) := h3
      have H4 : Hid (w.heap.size < wr.heap.size) := h4
      have HS : Hid ((numL [] k).set k 77 = numL [] (k + 1)) := by have h5 := numL_set [] k hlt; rwa [List.length_nil, Nat.zero_add] at h5
      clear h1 h2 h3 h4
      go_wp2_with fail
      go_roundw
      case rel => exact ⟨k + 1, by omega, by go_num, by rw [← HS.out, ← setI]; exact range_set H1.out _, World.there_setCells H2.out w.heap.size k [.int .i64 77], H3.out.setCell (p := ⟨w.heap.size, k, none⟩) (Nat.le_refl _) _, by have := H4.out; simpa [World.setCell] using this⟩
      case measure => simp [intOf]; omega
    · have hk4 : k = 4 := by omega
      subst hk4
      have hlt' : ¬ ((4 : Nat) : Int) < 4 := by decide
      have H1 : Hid (wr.rangeAt w.heap.size 0 (cellsI [77, 77, 77, 77])) := h1
      have H3 : Hid (Below w.heap.size w wr) := h3
      have H4 : Hid (w.heap.size < wr.heap.size) := h4
      clear h1 h2 h3 h4
      go_wp2_with fail
      go_ret
      exact ⟨rfl, H1.out, H3.out, H4.out⟩

end Go.Proofs.Ytkmoglhgkcnalaa
