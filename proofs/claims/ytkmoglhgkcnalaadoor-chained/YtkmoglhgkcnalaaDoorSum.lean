import Derived.Test.YtkmoglhgkcnalaaDoorNew
import Derived.Test.YtkmoglhgkcnalaaDoorShelf
namespace Go.Proofs.YtkmoglhgkcnalaaDoor
open Go.RowKit

/-- what stands behind the bytes -/
def padF (L : List UInt8) : List UInt8 := [128] ++ Lib.repeatL [0] ((119 - L.length % 64) % 64) ++ octF (8 * L.length) 8
/-- the hash's bytes, out of the words -/
def outF (H : List Int) (i : Nat) : UInt8 := UInt8.ofNat (H.getD (i / 4) 0 / 2 ^ (24 - 8 * (i % 4))).toNat
/-- the hash of bytes -/
def shaF (KS : List Int) (L : List UInt8) : List UInt8 := (List.range 32).map (outF (foldTo KS (L ++ padF L) ((L ++ padF L).length / 64)))

/-- the hash's bytes in the making -/
def outC (H : List Int) (k : Nat) : List Value := cellsB ((List.range k).map (outF H)) ++ List.replicate (32 - k) (.int .u8 0)
theorem outC_length (H : List Int) (k : Nat) (h : k ≤ 32) : (outC H k).length = 32 := by simp [outC, cellsB]; omega
theorem outC_get (H : List Int) (k : Nat) (h : k < 32) : (outC H k)[k]? = some (.int .u8 0) := by
  rw [outC, List.getElem?_append_right (by simp [cellsB]), List.getElem?_replicate, if_pos (by simp [cellsB]; omega)]
theorem outC_set (H : List Int) (k : Nat) (h : k < 32) (v : Int) (hv : v = ((outF H k).toNat : Int)) : (outC H k).set k (.int .u8 v) = outC H (k + 1) := by
  subst hv
  rw [outC, outC, show 32 - k = (32 - (k + 1)) + 1 from by omega, List.replicate_succ, List.range_succ, List.map_append, cellsB, cellsB, List.map_append, List.set_append_right _ _ (by simp)]
  simp
theorem outC_end (H : List Int) : outC H 32 = cellsB ((List.range 32).map (outF H)) := by simp [outC]

theorem foldTo_nonneg (KS : List Int) (L : List UInt8) (n i : Nat) : 0 ≤ (foldTo KS L n).getD i 0 := by
  cases n with
  | zero =>
    by_cases h : i < 8
    · have : i = 0 ∨ i = 1 ∨ i = 2 ∨ i = 3 ∨ i = 4 ∨ i = 5 ∨ i = 6 ∨ i = 7 := by omega
      rcases this with rfl | rfl | rfl | rfl | rfl | rfl | rfl | rfl <;> (rw [foldTo]; decide)
    · rw [List.getD_eq_getElem?_getD, List.getElem?_eq_none (by rw [foldTo_length]; omega)]; exact Int.le_refl _
  | succ n =>
    rw [foldTo, mixF, mixTo]
    by_cases h : i < 8
    · rw [List.getD_eq_getElem?_getD, List.getElem?_map, List.getElem?_range h]
      simp only [Option.map_some, Option.getD_some, h, if_true]
      exact wrap_u32_nonneg _
    · rw [List.getD_eq_getElem?_getD, List.getElem?_eq_none (by simp; omega)]; exact Int.le_refl _
theorem outF_val (H : List Int) (k : Nat) (x : Int) (hx : H.getD (k / 4) 0 = x) (h0 : 0 ≤ x) : x / 2 ^ (24 - 8 * (k % 4)) % 256 = ((outF H k).toNat : Int) := by
  rw [outF, hx]
  obtain ⟨m, rfl⟩ := Int.eq_ofNat_of_zero_le h0
  have e : ((m : Int) / 2 ^ (24 - 8 * (k % 4))) = ((m / 2 ^ (24 - 8 * (k % 4)) : Nat) : Int) := by
    rw [Int.natCast_ediv, Int.natCast_pow]; rfl
  rw [e, Int.toNat_natCast]
  simp

theorem DigM.made (w : World) (KS : List Int) (L blk : List UInt8) (n : Nat) (T : TypeId) (hb : blk.length = 64) (ht : blk.take (L.length % 64) = L.drop (64 * (L.length / 64))) :
    DigM (w.alloc (.cells (digC (foldTo KS L (L.length / 64)) blk n).toArray T)) w.heap.size KS L blk n := by
  have hr := range_new w (digC (foldTo KS L (L.length / 64)) blk n) T w.heap.size rfl
  have hf := foldTo_length KS L (L.length / 64)
  refine ⟨hb, fun j v hv => hr j v ?_, fun j v hv => ?_, ?_, ht, there_new _ _ _ _ _ rfl (by simp [digC, cellsW_length, cellsB_length, hf, hb])⟩
  · rw [digC, List.getElem?_append_left (List.getElem?_eq_some_iff.1 hv).1]; exact hv
  · have hj := (List.getElem?_eq_some_iff.1 hv).1
    have := hr (8 + j) v (by
      rw [digC, List.getElem?_append_right (by rw [cellsW_length, hf]; omega), cellsW_length, hf, show 8 + j - 8 = j from by omega, List.getElem?_append_left hj]
      exact hv)
    rwa [Nat.zero_add] at this
  · have := hr 72 (.int .u64 (n : Int)) (by
      rw [digC, List.getElem?_append_right (by rw [cellsW_length, hf]; omega), cellsW_length, hf, List.getElem?_append_right (by rw [cellsB_length, hb]; omega), cellsB_length, hb]
      rfl)
    rwa [Nat.zero_add] at this

theorem DigM.below {N : Nat} {w w' : World} {b : Nat} {KS : List Int} {L blk : List UInt8} {n : Nat} (h : DigM w b KS L blk n) (hb : Below N w w') (hN : b < N) : DigM w' b KS L blk n :=
  ⟨h.len, range_below hb hN h.words, range_below hb hN h.block, by rw [hb.cell (p := ⟨b, 72, none⟩) hN]; exact h.length, h.tail, there_below hb hN h.there⟩

theorem below_of_grown {w w2 w3 : World} {b : Nat} (h : Below w.heap.size w w2) (g : w2.grownBy w3 (some b)) (hb : w.heap.size ≤ b) : Below w.heap.size w w3 :=
  h.trans ⟨g.os, g.tape, g.output, g.size, fun k hk => g.block k (by have := h.size; omega) (by intro e; injection e; omega)⟩

theorem u64_int (x : Int) (h : 0 ≤ x) (w : World) :
    Calls Tryd.prog 47 #[.int .u64 x] w fun e w' => e = .returned (.string ⟨(octF x.toNat 8).toArray⟩) ∧ Below w.heap.size w w' := by
  obtain ⟨n, rfl⟩ := Int.eq_ofNat_of_zero_le h
  exact u64_any n w

set_option maxRecDepth 100000 in
set_option maxHeartbeats 400000 in
theorem sum_any (KS : List Int) (L blk : List UInt8) (w : World) (hbl : blk.length = 64) (htl : blk.take (L.length % 64) = L.drop (64 * (L.length / 64))) (hK : w.rangeAt 0 0 (cellsW KS)) (hKl : KS.length = 64) (h0 : 0 < w.heap.size)
    (hlen : L.length ≤ 576460752303423488) :
    Calls Tryd.prog 31 #[.agg (digC (foldTo KS L (L.length / 64)) blk L.length).toArray] w fun e w' => e = .returned (.string ⟨(shaF KS L).toArray⟩) ∧ Below w.heap.size w w' := by
  have hD := DigM.made w KS L blk L.length 57 hbl htl
  generalize digC (foldTo KS L (L.length / 64)) blk L.length = DC at *
  have HD : Hid (DigM (w.alloc (.cells DC.toArray 57)) w.heap.size KS L blk L.length) := hD
  have HK : Hid (w.rangeAt 0 0 (cellsW KS)) := hK
  have Hlen : Hid (L.length ≤ 576460752303423488) := hlen
  have hc := hD.length
  have h8 : 8 * (L.length : Int) ≤ 9223372036854775807 := by omega
  clear hD hK hbl htl hlen
  go_enter Tryd.func31, Tryd.ntmps31
  go_wp2_with fail
  refine (u64_int _ (by omega) _).mono ?_
  rintro e w1 ⟨rfl, hb1⟩
  rw [show (8 * (L.length : Int)).toNat = 8 * L.length from by omega]
  have hz1 : w.heap.size < w1.heap.size := by have := hb1.size; simp at this; omega
  have hD1 := HD.out.below hb1 (by simp)
  have hc1 := hD1.length
  have HD1 : Hid (DigM w1 w.heap.size KS L blk L.length) := hD1
  have Hb1 : Hid (Below w.heap.size w w1) := ((Below.refl _ _).alloc (Nat.le_refl _) _).trans (hb1.mono (by simp))
  have hos : (ByteArray.mk (octF (8 * L.length) 8).toArray).size = 8 := by show (octF (8 * L.length) 8).toArray.size = 8; simp [octF_length]
  generalize hO : octF (8 * L.length) 8 = O at *
  have HO : Hid (octF (8 * L.length) 8 = O) := hO
  clear hD1 hb1 hO hc
  go_wp2_with fail
  obtain ⟨c, hcc⟩ : ∃ c : Nat, c = (119 - L.length % 64) % 64 := ⟨_, rfl⟩
  rw [show ((119 - (L.length : Int)) % 64) = (c : Int) from by omega]
  refine (Tryd.strings_Repeat _ c _ (by omega) (by show 1 * c ≤ _; omega)).mono ?_
  rintro e w2 ⟨rfl, hb2⟩
  have hz2 : w.heap.size < w2.heap.size := by have := hb2.size; omega
  have HD2 : Hid (DigM w2 w.heap.size KS L blk L.length) := HD1.out.below hb2 hz1
  have Hb2 : Hid (Below w.heap.size w w2) := Hb1.out.trans (hb2.mono (by omega))
  have HC : Hid (c = (119 - L.length % 64) % 64) := hcc
  generalize hR : Lib.repeatL (ByteArray.mk #[0]).data.toList c = R at *
  have HR : Hid (Lib.repeatL (ByteArray.mk #[0]).data.toList c = R) := hR
  have hRl : R.length ≤ 64 := by rw [← hR, Lib.repeatL_length]; show c * 1 ≤ 64; omega
  have hO8 : O.length = 8 := by rw [← HO.out, octF_length]
  clear hb2 hR hcc hc1 hos
  have hsd : (ByteArray.mk #[128] ++ ByteArray.mk R.toArray ++ ByteArray.mk O.toArray).data.toList = padF L := by
    rw [padF, ← HC.out, ← HR.out, ← HO.out]
    simp
  have hss : (ByteArray.mk #[128] ++ ByteArray.mk R.toArray ++ ByteArray.mk O.toArray).size = (padF L).length := by
    rw [← hsd, Array.length_toList]; rfl
  have hpl : (padF L).length ≤ 73 := by rw [← hsd]; simp; omega
  go_wp2_with fail
  generalize ByteArray.mk #[128] ++ ByteArray.mk R.toArray ++ ByteArray.mk O.toArray = sp at *
  refine (write_any KS L blk sp w2 w.heap.size HD2.out (range_below Hb2.out h0 HK.out) hKl h0 hz2 (by have := Hlen.out; omega)).mono ?_
  rintro e w3 ⟨rfl, hg3, blk3, hD3⟩
  rw [hsd] at hD3
  have HG3 : Hid (w2.grownBy w3 (some w.heap.size)) := hg3
  have HD3 : Hid (DigM w3 w.heap.size KS (L ++ padF L) blk3 (L.length + sp.size)) := hD3
  have hz3 : w.heap.size < w3.heap.size := by have := hg3.size; omega
  have hmk : ∀ W, (Instr.makeSlice 51 (.int .i64 32) (.int .i64 32)).run Tryd.prog W = .ok (.slice (some ⟨W.heap.size, 0, none⟩) 32 32) (W.alloc (.cells (madeCells #[.int .u8 0] 32) 5)) :=
    fun W => run_make_row' (P := Tryd.prog) 51 5 (.int .u8 0) 1 Tryd.underlying51 Tryd.info5 rfl .i64 .i64 32 (by omega) (by omega) W
  clear hg3 hD3 hsd hss hpl
  go_wp2
  have hHl : (foldTo KS (L ++ padF L) ((L ++ padF L).length / 64)).length = 8 := foldTo_length _ _ _
  have hwr := HD3.out.words
  generalize hH : foldTo KS (L ++ padF L) ((L ++ padF L).length / 64) = H at hHl hwr
  have HH : Hid (foldTo KS (L ++ padF L) ((L ++ padF L).length / 64) = H) := hH
  have Hwr : Hid (w3.rangeAt w.heap.size 0 (cellsW H)) := hwr
  have HHl : Hid (H.length = 8) := hHl
  clear hH hwr hHl hmk
  go_loopw [7, 31] (fun _ i wr => ∃ k : Nat, k ≤ 32 ∧ i = .int .i64 k ∧ wr = w3.alloc (.cells (outC H k).toArray 5)) (fun _ i _ => 32 - (intOf i).toNat)
  case atStart => exact ⟨0, by omega, rfl, by rw [madeCells_one]; rfl⟩
  case round =>
    obtain ⟨k, hk, rfl, rfl⟩ := hrel
    by_cases hlt : k < 32
    · have hg := outC_get H k hlt
      have hln := outC_length H k hk
      have hcw := fun o : Obj => World.cell?_alloc_past (w := w3) o w.heap.size (k / 4) hz3
      have hcv : w3.cell? ⟨w.heap.size, k / 4, none⟩ = some (.int .u32 (H.getD (k / 4) 0)) := rangeW0 Hwr.out (k / 4) (by rw [HHl.out]; omega)
      generalize hx : H.getD (k / 4) 0 = x at hcv
      have HX : Hid (H.getD (k / 4) 0 = x) := hx
      clear hx
      have b1 : (k : Int) / 4 < 8 := by omega
      have b2 : (0 : Int) ≤ (k : Int) / 4 := by omega
      have b3 : (0 : Int) ≤ 24 - 8 * ((k : Int) % 4) := by omega
      have hx0 : Hid (0 ≤ x) := by show 0 ≤ x; rw [← HX.out, ← HH.out]; exact foldTo_nonneg _ _ _ _
      go_wp2
      go_roundw
      case rel => exact ⟨k + 1, by omega, by go_num, by rw [outC_set H k hlt _ (outF_val H k x HX.out hx0.out)]⟩
      case measure => simp [intOf]; omega
    · have hk32 : k = 32 := by omega
      subst hk32
      clear hlt hk
      rw [outC_end]
      have hcv := run_convert_bytes_back (P := Tryd.prog) (w3.alloc (.cells (cellsB ((List.range 32).map (outF H))).toArray 5)) 51 9 5 ⟨w3.heap.size, 0, none⟩ 32 ((List.range 32).map (outF H)) Tryd.underlying51 Tryd.underlying5 Tryd.underlying9
        (fun j hj => by rw [Addr.add_mid, World.cell?_alloc_at _ _ _ _ rfl]; simp [cellsB] at hj ⊢; simp [hj])
      rw [show ((List.range 32).map (outF H)).length = 32 from by simp] at hcv
      generalize hZ : (List.range 32).map (outF H) = Z at *
      have HZ : Hid (shaF KS L = Z) := by show shaF KS L = Z; rw [shaF, HH.out, hZ]
      clear hZ
      go_wp2
      go_ret
      refine ⟨ret_str HZ.out.symm, ?_⟩
      exact (below_of_grown Hb2.out HG3.out (Nat.le_refl _)).alloc (by omega) _

end Go.Proofs.YtkmoglhgkcnalaaDoor
