/- The hash of bytes, block by block: plain lists. -/
import Derived.Test.YtkmoglhgkcnalaaDoorMath2
namespace Go.Proofs.YtkmoglhgkcnalaaDoor
open Go.RowKit

/-- the words at first -/
def H0 : List Int := [1779033703, 3144134277, 1013904242, 2773480762, 1359893119, 2600822924, 528734635, 1541459225]
/-- the words behind so many blocks -/
def foldTo (KS : List Int) (L : List UInt8) : Nat → List Int
  | 0 => H0
  | n + 1 => mixF KS (foldTo KS L n) ((L.drop (64 * n)).take 64)
theorem foldTo_length (KS : List Int) (L : List UInt8) (n : Nat) : (foldTo KS L n).length = 8 := by
  cases n with
  | zero => rfl
  | succ n => exact mixF_length _ _ _
theorem foldTo_append (KS : List Int) (L p : List UInt8) : ∀ n, 64 * n ≤ L.length → foldTo KS (L ++ p) n = foldTo KS L n
  | 0, _ => rfl
  | n + 1, h => by
    rw [foldTo, foldTo, foldTo_append KS L p n (by omega), List.drop_append_of_le_length (by omega), List.take_append_of_le_length (by simp; omega)]

/-- a block of 64 bytes, some of them overwritten -/
def overB (blk q : List UInt8) (h : Nat) : List UInt8 := blk.take h ++ q ++ blk.drop (h + q.length)
theorem overB_length (blk q : List UInt8) (h : Nat) (hb : blk.length = 64) (hq : h + q.length ≤ 64) : (overB blk q h).length = 64 := by
  simp [overB, hb]; omega
theorem overB_take (blk q : List UInt8) (h : Nat) (hb : blk.length = 64) (hq : h + q.length ≤ 64) : (overB blk q h).take (h + q.length) = blk.take h ++ q := by
  rw [overB, List.take_append_of_le_length (by simp; omega), List.take_of_length_le (by simp; omega)]

/-- what waits in the block: fewer than 64 bytes -/
theorem tail_more (blk L q : List UInt8) (hb : blk.length = 64) (ht : blk.take (L.length % 64) = L.drop (64 * (L.length / 64))) (hq : L.length % 64 + q.length < 64) :
    (L ++ q).length / 64 = L.length / 64 ∧ (L ++ q).length % 64 = L.length % 64 + q.length ∧
    (overB blk q (L.length % 64)).take ((L ++ q).length % 64) = (L ++ q).drop (64 * ((L ++ q).length / 64)) := by
  have h1 : (L ++ q).length / 64 = L.length / 64 := by simp; omega
  have h2 : (L ++ q).length % 64 = L.length % 64 + q.length := by simp; omega
  refine ⟨h1, h2, ?_⟩
  rw [h1, h2, overB_take _ _ _ hb (by omega), ht, List.drop_append_of_le_length (by omega)]
/-- .. just 64 bytes -/
theorem tail_full (KS : List Int) (blk L q : List UInt8) (hb : blk.length = 64) (ht : blk.take (L.length % 64) = L.drop (64 * (L.length / 64))) (hq : L.length % 64 + q.length = 64) :
    (L ++ q).length / 64 = L.length / 64 + 1 ∧ (L ++ q).length % 64 = 0 ∧ (L ++ q).drop (64 * ((L ++ q).length / 64)) = [] ∧
    foldTo KS (L ++ q) ((L ++ q).length / 64) = mixF KS (foldTo KS L (L.length / 64)) (overB blk q (L.length % 64)) := by
  have h1 : (L ++ q).length / 64 = L.length / 64 + 1 := by simp; omega
  have h2 : (L ++ q).length % 64 = 0 := by simp; omega
  refine ⟨h1, h2, ?_, ?_⟩
  · rw [h1, List.drop_eq_nil_iff]; simp; omega
  · rw [h1, foldTo, foldTo_append _ _ _ _ (by omega)]
    congr 1
    have e : (overB blk q (L.length % 64)).take 64 = blk.take (L.length % 64) ++ q := by
      have := overB_take blk q (L.length % 64) hb (by omega)
      rwa [hq] at this
    rw [List.take_of_length_le (by rw [overB_length _ _ _ hb (by omega)]; omega)] at e
    rw [e, ht, List.drop_append_of_le_length (by omega), List.take_of_length_le (by simp; omega)]

end Go.Proofs.YtkmoglhgkcnalaaDoor
