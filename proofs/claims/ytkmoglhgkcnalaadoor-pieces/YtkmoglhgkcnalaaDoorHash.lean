import Derived.Test.YtkmoglhgkcnalaaDoorSum
namespace Go.Proofs.YtkmoglhgkcnalaaDoor
open Go.RowKit

/-- the cells of a hash in memory, as one value -/
theorem DigM.whole {w : World} {b : Nat} {KS : List Int} {L blk : List UInt8} {n : Nat} (h : DigM w b KS L blk n) : w.rangeAt b 0 (digC (foldTo KS L (L.length / 64)) blk n) := fun j v hv => by
  have hf := foldTo_length KS L (L.length / 64)
  rw [digC] at hv
  by_cases h1 : j < 8
  · rw [List.getElem?_append_left (by rw [cellsW_length, hf]; exact h1)] at hv
    exact h.words j v hv
  · rw [List.getElem?_append_right (by rw [cellsW_length, hf]; omega), cellsW_length, hf] at hv
    by_cases h2 : j < 72
    · rw [List.getElem?_append_left (by rw [cellsB_length, h.len]; omega)] at hv
      have := h.block (j - 8) v hv
      rwa [show 8 + (j - 8) = 0 + j from by omega] at this
    · rw [List.getElem?_append_right (by rw [cellsB_length, h.len]; omega), cellsB_length, h.len] at hv
      have hj : j - 8 - 64 < 1 := by have := (List.getElem?_eq_some_iff.1 hv).1; simpa using this
      have hj2 : j = 72 := by omega
      subst hj2
      simp at hv
      rw [← hv]
      exact h.length
theorem digC_length (KS : List Int) (L blk : List UInt8) (n m : Nat) (hb : blk.length = 64) : (digC (foldTo KS L m) blk n).length = 73 := by
  simp [digC, cellsW_length, cellsB_length, foldTo_length, hb]

theorem DigM.of_range {w : World} {b : Nat} {KS : List Int} {L blk : List UInt8} {n : Nat} (hr : w.rangeAt b 0 (digC (foldTo KS L (L.length / 64)) blk n)) (hth : w.there b 0 73) (hb : blk.length = 64) (ht : blk.take (L.length % 64) = L.drop (64 * (L.length / 64))) : DigM w b KS L blk n := by
  have hf := foldTo_length KS L (L.length / 64)
  refine ⟨hb, fun j v hv => hr j v ?_, fun j v hv => ?_, ?_, ht, hth⟩
  · rw [digC, List.getElem?_append_left (List.getElem?_eq_some_iff.1 hv).1]; exact hv
  · have hj := (List.getElem?_eq_some_iff.1 hv).1
    have := hr (8 + j) v (by
      rw [digC, List.getElem?_append_right (by rw [cellsW_length, hf]; omega), cellsW_length, hf, show 8 + j - 8 = j from by omega, List.getElem?_append_left hj]
      exact hv)
    rwa [Nat.zero_add] at this
  · have := hr 72 (.int .u64 (n : Int)) (by
      rw [digC, List.getElem?_append_right (by rw [cellsW_length, hf]; omega), cellsW_length, hf, List.getElem?_append_right (by rw [cellsB_length, hb]; omega), cellsB_length, hb]
      rfl)
    rwa [Nat.zero_add] at this
theorem DigM.new (w : World) (KS : List Int) (c : Array Value) (T : TypeId) (hc : c.size = 73) : DigM ((w.alloc (.cells c T)).setCells w.heap.size 0 newC) w.heap.size KS [] (List.replicate 64 0) 0 := by
  have hth := there_new w c T w.heap.size 73 rfl hc
  exact DigM.of_range (World.rangeAt_setCells_same _ _ _ _ (by rw [newC_length]; exact hth)) (World.there_setCells hth _ _ _) (by simp) (by simp)

/-- the first pieces, one behind the other -/
def catF (ps : List ByteArray) (k : Nat) : List UInt8 := (ps.take k).flatMap fun p => p.data.toList
theorem catF_succ (ps : List ByteArray) (k : Nat) (h : k < ps.length) : catF ps (k + 1) = catF ps k ++ (ps[k]).data.toList := by
  rw [catF, catF, List.take_succ_eq_append_getElem h, List.flatMap_append, List.flatMap_singleton]
theorem catF_le (ps : List ByteArray) (k : Nat) : (catF ps k).length ≤ (catF ps ps.length).length := by
  by_cases h : k ≤ ps.length
  · rw [catF, catF, List.take_length]
    have e : ps.flatMap (fun p => p.data.toList) = (ps.take k).flatMap (fun p => p.data.toList) ++ (ps.drop k).flatMap (fun p => p.data.toList) := by rw [← List.flatMap_append, List.take_append_drop]
    rw [e, List.length_append]; omega
  · rw [catF, catF, List.take_of_length_le (by omega), List.take_length]; exact Nat.le_refl _

set_option maxRecDepth 100000 in
set_option maxHeartbeats 400000 in
/-- Of: pieces, one behind the other -/
theorem of_any (KS : List Int) (ps : List ByteArray) (cap : Nat) (w : World) (b : Nat) (hb : b < w.heap.size) (hcell : ∀ k (h : k < ps.length), w.cell? ⟨b, k, none⟩ = some (.string ps[k])) (hK : w.rangeAt 0 0 (cellsW KS)) (hKl : KS.length = 64)
    (hlen : (catF ps ps.length).length ≤ 576460752303423488) (hn : ps.length ≤ 1152921504606846976) :
    Calls Tryd.prog 26 #[.slice (some ⟨b, 0, none⟩) ps.length cap] w fun e w' => e = .returned (.string ⟨(shaF KS (catF ps ps.length)).toArray⟩) ∧ Below w.heap.size w w' := by
  have HK : Hid (w.rangeAt 0 0 (cellsW KS)) := hK
  have Hc : Hid (∀ k (h : k < ps.length), w.cell? ⟨b, k, none⟩ = some (.string ps[k])) := hcell
  have Hlen : Hid ((catF ps ps.length).length ≤ 576460752303423488) := hlen
  have hsz : newC.toArray.size = 73 := by rw [List.size_toArray, newC_length]
  have Hi : Hid ((Tryd.prog.info? 57).map (·.size) = some newC.toArray.size) := by show _ = some newC.toArray.size; rw [hsz]; exact Tryd.size57
  clear hK hcell hlen
  go_enter Tryd.func26, Tryd.ntmps26
  go_wp2_with fail
  refine (new_any _).mono ?_
  rintro e w1 ⟨rfl, hb1⟩
  have hs1 := hb1.size
  have hth : (w1.alloc (.cells Tryd.zeroCells57 57)).there w1.heap.size 0 73 := there_new _ _ _ _ _ rfl (by kernel_rfl)
  have hst := run_storeCells_cells (P := Tryd.prog) w1.heap.size 0 newC 0 (w1.alloc (.cells Tryd.zeroCells57 57)) (fun j hj => by rw [newC_length] at hj; exact (hth j hj).1) (fun j hj => by rw [newC_length] at hj; exact (hth j hj).2) (digC_one _ _ _)
  simp only [Nat.add_zero] at hst
  have HD1 : Hid (DigM ((w1.alloc (.cells Tryd.zeroCells57 57)).setCells w1.heap.size 0 newC) w1.heap.size KS [] (List.replicate 64 0) 0) := DigM.new w1 KS _ _ (by kernel_rfl)
  have Hb1 : Hid (Below w.heap.size w w1) := hb1
  clear hb1 hsz hth Hi
  go_wp2
  clear hst
  go_loopw [5, 9] (fun _ i wr => ∃ (k : Nat) (blk : List UInt8), k ≤ ps.length ∧ i = .int .i64 k ∧ DigM wr w1.heap.size KS (catF ps k) blk (catF ps k).length ∧ Below w.heap.size w wr ∧ w1.heap.size < wr.heap.size) (fun _ i _ => ps.length - (intOf i).toNat)
  case atStart => exact ⟨0, List.replicate 64 0, Nat.zero_le _, rfl, HD1.out, below_setCells hs1 _ _ _ _ (Hb1.out.alloc hs1 _), by rw [size_setCells]; simp⟩
  case round =>
    obtain ⟨k, blk, hk, rfl, hD, hB, hz⟩ := hrel
    have HD : Hid (DigM wr w1.heap.size KS (catF ps k) blk (catF ps k).length) := hD
    have HB : Hid (Below w.heap.size w wr) := hB
    clear hD hB HD1
    by_cases hlt : k < ps.length
    · have hcl : wr.cell? ⟨b, k, none⟩ = some (.string ps[k]) := by rw [HB.out.cell (p := ⟨b, k, none⟩) hb]; exact Hc.out k hlt
      have hlt' : (k : Int) < (ps.length : Int) := by omega
      generalize hp : ps[k] = p at hcl
      have HP : Hid (catF ps (k + 1) = catF ps k ++ p.data.toList) := by show catF ps (k + 1) = _; rw [catF_succ ps k hlt, hp]
      have hpl : (catF ps k).length + p.size ≤ 4611686018427387904 := by
        have h1 := catF_le ps (k + 1)
        have h2 := HP.out
        have h3 := Hlen.out
        have h4 : p.data.toList.length = p.size := by rw [Array.length_toList]; rfl
        rw [h2, List.length_append, h4] at h1
        omega
      clear hp
      go_wp2_with fail
      refine (write_any KS (catF ps k) blk p wr w1.heap.size HD.out (range_below HB.out (by omega) HK.out) hKl (by omega) hz hpl).mono ?_
      rintro e w4 ⟨rfl, hg4, blk4, hD4⟩
      have hz4 : w1.heap.size < w4.heap.size := by have := hg4.size; omega
      have hB4 : Below w.heap.size w w4 := below_of_grown HB.out hg4 hs1
      have h4 : p.data.toList.length = p.size := by rw [Array.length_toList]; rfl
      have HD4 : Hid (DigM w4 w1.heap.size KS (catF ps (k + 1)) blk4 (catF ps (k + 1)).length) := by
        show DigM w4 w1.heap.size KS (catF ps (k + 1)) blk4 (catF ps (k + 1)).length
        rw [HP.out, List.length_append, h4]; exact hD4
      have HB4 : Hid (Below w.heap.size w w4) := hB4
      clear hg4 hD4 hB4 h4 hpl
      go_wp2
      go_roundw
      case rel => exact ⟨k + 1, blk4, by omega, by go_num, HD4.out, HB4.out, hz4⟩
      case measure => simp [intOf]; omega
    · have hkl : k = ps.length := by omega
      subst hkl
      clear hlt hk
      have hdl := digC_length KS (catF ps ps.length) blk (catF ps ps.length).length ((catF ps ps.length).length / 64) HD.out.len
      have hi57 : (Tryd.prog.info? 57).map (·.size) = some (digC (foldTo KS (catF ps ps.length) ((catF ps ps.length).length / 64)) blk (catF ps ps.length).length).length := by rw [hdl]; exact Tryd.size57
      have Hwh : Hid (wr.rangeAt w1.heap.size 0 (digC (foldTo KS (catF ps ps.length) ((catF ps ps.length).length / 64)) blk (catF ps ps.length).length)) := HD.out.whole
      have hsum := sum_any KS (catF ps ps.length) blk wr HD.out.len HD.out.tail (range_below HB.out (by omega) HK.out) hKl (by omega) Hlen.out
      generalize digC (foldTo KS (catF ps ps.length) ((catF ps ps.length).length / 64)) blk (catF ps ps.length).length = DC at *
      have Hsum : Hid (Calls _ _ _ _ _) := hsum
      have Hi57 : Hid ((Tryd.prog.info? 57).map (·.size) = some DC.length) := hi57
      clear hsum hdl hi57
      go_wp2_with (refine wpList_load_mid rfl 57 (.tmp 3) rfl w1.heap.size 0 rfl DC _ Hwh.out Tryd.underlying57 rfl Hi57.out ?_)
      refine Hsum.out.mono ?_
      rintro e w5 ⟨rfl, hb5⟩
      go_wp2
      go_ret
      exact ⟨rfl, HB.out.trans (hb5.mono (by have := HB.out.size; omega))⟩

end Go.Proofs.YtkmoglhgkcnalaaDoor
