/- A hash in memory: 73 cells of one block. -/
import Derived.Test.YtkmoglhgkcnalaaDoorAid2
import Derived.Test.YtkmoglhgkcnalaaDoorMath3
namespace Go.Proofs.YtkmoglhgkcnalaaDoor
open Go.RowKit

structure DigM (w : World) (b : Nat) (KS : List Int) (L blk : List UInt8) (n : Nat) : Prop where
  len : blk.length = 64
  words : w.rangeAt b 0 (cellsW (foldTo KS L (L.length / 64)))
  block : w.rangeAt b 8 (cellsB blk)
  length : w.cell? ⟨b, 72, none⟩ = some (.int .u64 (n : Int))
  tail : blk.take (L.length % 64) = L.drop (64 * (L.length / 64))
  there : w.there b 0 73

theorem there_sub {w : World} {b o n o' n' : Nat} (h : w.there b o n) (h1 : o ≤ o') (h2 : o' + n' ≤ o + n) : w.there b o' n' := fun j hj => by
  have := h (o' + j - o) (by omega)
  rwa [show o + (o' + j - o) = o' + j from by omega] at this

theorem run_copy_str {P : Program} (w : World) (T ty e : TypeId) (hT : P.underlying T = some (.slice e)) (hs : (P.info? e).isSome = true) (T2 : TypeId) (b o len cap n : Nat) (s : ByteArray) (hn : Nat.min s.size len = n) (ht : w.there b o n) :
    (Builtin.copy_ #[T, T2] ty #[.slice (some ⟨b, o, none⟩) len cap, .string s]).run P w = .ok (goInt n) (w.setCells b o (cellsB (s.data.toList.take n))) := by
  cases hq : P.info? e with
  | none => simp [hq] at hs
  | some i =>
    have hc : (s.data.toList.take n).map (fun b : UInt8 => Value.int .u8 (b.toNat : Int)) = cellsB (s.data.toList.take n) := rfl
    have hl : (cellsB (s.data.toList.take n)).length ≤ n := by simp [cellsB]; omega
    have hst := run_storeCells_cells (P := P) b o (cellsB (s.data.toList.take n)) 0 w (fun j hj => by simpa using (ht j (by omega)).1) (fun j hj => by simpa using (ht j (by omega)).2) (cellsB_one _)
    simp only [Nat.add_zero] at hst
    simp [Builtin.copy_, run_underlying hT, Builtin.lenOf, hn, sizeOf, typeInfo, hq, Builtin.firstCells]
    rw [List.map_take] at hc
    rw [hc, hst]
    rfl

/-- behind a copy of some bytes into the block -/
theorem DigM.copied {w : World} {b : Nat} {KS : List Int} {L blk : List UInt8} {n : Nat} (h : DigM w b KS L blk n) (q : List UInt8) (hq : L.length % 64 + q.length ≤ 64) :
    (w.setCells b (8 + L.length % 64) (cellsB q)).rangeAt b 8 (cellsB (overB blk q (L.length % 64))) ∧
    (w.setCells b (8 + L.length % 64) (cellsB q)).rangeAt b 0 (cellsW (foldTo KS L (L.length / 64))) ∧
    (w.setCells b (8 + L.length % 64) (cellsB q)).cell? ⟨b, 72, none⟩ = some (.int .u64 (n : Int)) ∧
    (w.setCells b (8 + L.length % 64) (cellsB q)).there b 0 73 := by
  have hq' : (cellsB q).length = q.length := cellsB_length q
  refine ⟨?_, ?_, ?_, World.there_setCells h.there _ _ _⟩
  · intro j v hv
    have hth : w.there b (8 + L.length % 64) (cellsB q).length := there_sub h.there (by omega) (by omega)
    have hj : j < 64 := by
      have := (List.getElem?_eq_some_iff.1 hv).1
      rwa [cellsB_length, overB_length _ _ _ h.len hq] at this
    rw [cellsB, List.getElem?_map, Option.map_eq_some_iff] at hv
    obtain ⟨x, hx, rfl⟩ := hv
    by_cases h1 : j < L.length % 64
    · rw [World.cell?_setCells_out b _ _ _ _ (fun _ _ => Or.inl (by show 8 + j < 8 + L.length % 64; omega))]
      refine h.block j _ ?_
      rw [overB, List.append_assoc, List.getElem?_append_left (by simp [h.len]; omega), List.getElem?_take_of_lt h1] at hx
      rw [cellsB, List.getElem?_map, hx]; rfl
    · by_cases h2 : j < L.length % 64 + q.length
      · have := World.rangeAt_setCells_same w b (8 + L.length % 64) (cellsB q) hth (j - L.length % 64) (.int .u8 (x.toNat : Int)) (by
          rw [overB, List.append_assoc, List.getElem?_append_right (by simp; omega), List.getElem?_append_left (by simp [h.len]; omega)] at hx
          simp only [List.length_take, h.len] at hx
          rw [show min (L.length % 64) 64 = L.length % 64 from by omega] at hx
          rw [cellsB, List.getElem?_map, hx]; rfl)
        rwa [show 8 + L.length % 64 + (j - L.length % 64) = 8 + j from by omega] at this
      · rw [World.cell?_setCells_out b _ _ _ _ (fun _ _ => Or.inr (by show 8 + L.length % 64 + (cellsB q).length ≤ 8 + j; omega))]
        refine h.block j _ ?_
        rw [overB, List.getElem?_append_right (by simp [h.len]; omega), List.getElem?_drop] at hx
        simp only [List.length_append, List.length_take, h.len] at hx
        rw [show L.length % 64 + q.length + (j - (min (L.length % 64) 64 + q.length)) = j from by omega] at hx
        rw [cellsB, List.getElem?_map, hx]; rfl
  · exact World.rangeAt_setCells_apart h.words _ _ _ (Or.inr (Or.inl (by rw [cellsW_length, foldTo_length]; omega)))
  · rw [World.cell?_setCells_out b _ _ _ _ (fun _ _ => Or.inr (by show 8 + L.length % 64 + (cellsB q).length ≤ 72; omega))]
    exact h.length

theorem DigM.setLen {w : World} {b : Nat} {KS : List Int} {L blk : List UInt8} {n : Nat} (h : DigM w b KS L blk n) (m : Nat) : DigM (w.setCell ⟨b, 72, none⟩ (.int .u64 (m : Int))) b KS L blk m := by
  have e : w.setCell ⟨b, 72, none⟩ (.int .u64 (m : Int)) = w.setCells b 72 [.int .u64 (m : Int)] := rfl
  rw [e]
  exact ⟨h.len, World.rangeAt_setCells_apart h.words _ _ _ (Or.inr (Or.inl (by rw [cellsW_length, foldTo_length]; omega))), World.rangeAt_setCells_apart h.block _ _ _ (Or.inr (Or.inl (by rw [cellsB_length, h.len]; omega))),
    by have := World.rangeAt_setCells_same w b 72 [.int .u64 (m : Int)] (there_sub h.there (by omega) (by simp)) 0 _ rfl; exact this, h.tail, World.there_setCells h.there _ _ _⟩

theorem grown_trans {a b c : World} {row : Option Nat} (h : a.grownBy b row) (k : b.grownBy c row) : a.grownBy c row :=
  ⟨k.os.trans h.os, k.tape.trans h.tape, k.output.trans h.output, Nat.le_trans h.size k.size, fun i hi hr => (k.block i (Nat.lt_of_lt_of_le hi h.size) hr).trans (h.block i hi hr)⟩
theorem grown_below {w w' : World} {row : Option Nat} (h : Below w.heap.size w w') : w.grownBy w' row := ⟨h.os, h.tape, h.output, h.size, fun k hk _ => h.block k hk⟩
theorem grown_setCell (w : World) (b o : Nat) (v : Value) : w.grownBy (w.setCell ⟨b, o, none⟩ v) (some b) :=
  ⟨rfl, rfl, rfl, by simp [World.setCell], fun k _ hr => Below.heap_setCell _ _ _ _ (fun e => hr (by rw [e]))⟩
theorem grown_setCells (b : Nat) : ∀ (vs : List Value) (o : Nat) (w : World), w.grownBy (w.setCells b o vs) (some b)
  | [], _, w => World.grownBy.refl w _
  | v :: r, o, w => grown_trans (grown_setCell w b o v) (grown_setCells b r (o + 1) _)
theorem grown_drewN (w : World) (n : Nat) (row : Option Nat) : w.grownBy (w.drewN n) row := ⟨rfl, rfl, rfl, Nat.le_refl _, fun _ _ _ => rfl⟩
theorem DigM.drewN {w : World} {b : Nat} {KS : List Int} {L blk : List UInt8} {n : Nat} (h : DigM w b KS L blk n) (m : Nat) : DigM (w.drewN m) b KS L blk n := ⟨h.len, h.words, h.block, h.length, h.tail, h.there⟩

theorem DigM.more {w : World} {b : Nat} {KS : List Int} {L blk : List UInt8} {n : Nat} (h : DigM w b KS L blk n) (q : List UInt8) (hq : L.length % 64 + q.length < 64) :
    DigM (w.setCells b (8 + L.length % 64) (cellsB q)) b KS (L ++ q) (overB blk q (L.length % 64)) n := by
  obtain ⟨c1, c2, c3, c4⟩ := h.copied q (by omega)
  obtain ⟨t1, t2, t3⟩ := tail_more blk L q h.len h.tail hq
  exact ⟨overB_length _ _ _ h.len (by omega), by rw [t1, foldTo_append _ _ _ _ (by omega)]; exact c2, c1, c3, t3, c4⟩
theorem DigM.full {w w2 : World} {b : Nat} {KS : List Int} {L blk : List UInt8} {n : Nat} (h : DigM w b KS L blk n) (q : List UInt8) (hq : L.length % 64 + q.length = 64)
    (hb : Below w.heap.size (w.setCells b (8 + L.length % 64) (cellsB q)) w2) (hbb : b < w.heap.size) :
    DigM (w2.setCells b 0 (cellsW (mixF KS (foldTo KS L (L.length / 64)) (overB blk q (L.length % 64))))) b KS (L ++ q) (overB blk q (L.length % 64)) n := by
  obtain ⟨c1, c2, c3, c4⟩ := h.copied q (by omega)
  obtain ⟨t1, t2, t3, t4⟩ := tail_full KS blk L q h.len h.tail hq
  have hl : (cellsW (mixF KS (foldTo KS L (L.length / 64)) (overB blk q (L.length % 64)))).length = 8 := by rw [cellsW_length, mixF_length]
  have d1 := range_below hb hbb c1
  have d4 := there_below hb hbb c4
  refine ⟨overB_length _ _ _ h.len (by omega), ?_, World.rangeAt_setCells_apart d1 _ _ _ (Or.inr (Or.inr (by omega))), ?_, ?_, World.there_setCells d4 _ _ _⟩
  · rw [t4]; exact World.rangeAt_setCells_same _ _ _ _ (there_sub d4 (by omega) (by omega))
  · rw [World.cell?_setCells_out b _ _ _ _ (fun _ _ => Or.inr (by show 0 + _ ≤ 72; omega)), hb.cell (p := ⟨b, 72, none⟩) hbb]; exact c3
  · rw [t2, t3]; rfl

theorem size_setCells (b : Nat) : ∀ (vs : List Value) (o : Nat) (w : World), (w.setCells b o vs).heap.size = w.heap.size
  | [], _, _ => rfl
  | v :: r, o, w => by rw [World.setCells, size_setCells b r (o + 1)]; simp [World.setCell]

end Go.Proofs.YtkmoglhgkcnalaaDoor
