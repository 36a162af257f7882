/- The reference's padding. -/
import Derived.Test.YtkmoglhgkcnalaaDoorRefBlock
import Derived.Test.YtkmoglhgkcnalaaDoorSum
namespace Go.Proofs.YtkmoglhgkcnalaaDoor
open Go.RowKit

/-- how long the padded bytes are -/
def padLen (n : Nat) : Nat := (n + 8) / 64 * 64 + 64
theorem pad_zeros (n : Nat) : (119 - n % 64) % 64 = padLen n - n - 9 := by unfold padLen; omega
theorem padLen_gt (n : Nat) : n + 9 ≤ padLen n := by unfold padLen; omega
/-- the padded bytes in the making: i of the last eight are there -/
def padC (L : List UInt8) (i : Nat) : List UInt8 := L ++ [128] ++ List.replicate (padLen L.length - L.length - 9) 0 ++ (octF (8 * L.length) 8).take i ++ List.replicate (8 - i) 0
theorem padC_length (L : List UInt8) (i : Nat) (h : i ≤ 8) : (padC L i).length = padLen L.length := by
  have := padLen_gt L.length
  simp [padC, octF_length]; omega
theorem padC_start (L : List UInt8) : (L ++ List.replicate (padLen L.length - L.length) 0).set L.length 128 = padC L 0 := by
  obtain ⟨z, hz⟩ : ∃ z, padLen L.length = L.length + 9 + z := ⟨padLen L.length - L.length - 9, by have := padLen_gt L.length; omega⟩
  rw [padC, hz, show L.length + 9 + z - L.length = (z + 8) + 1 from by omega, show z + 8 + 1 - 9 = z from by omega, List.replicate_succ, List.set_append_right _ _ (by omega)]
  simp only [List.cons_append, Nat.sub_self, List.set_cons_zero, List.take_zero, List.append_nil, List.append_assoc, Nat.sub_zero, List.replicate_append_replicate, List.nil_append]
theorem padC_end (L : List UInt8) : padC L 8 = L ++ padF L := by
  rw [padC, padF, pad_zeros, show ([0] : List UInt8) = List.replicate 1 0 from rfl, Lib.repeatL_replicate, Nat.mul_one]
  simp [octF_length, List.take_of_length_le]
theorem padC_set (L : List UInt8) (i : Nat) (h : i < 8) (v : UInt8) (hv : v = UInt8.ofNat (8 * L.length / 256 ^ (7 - i))) : (padC L i).set (padLen L.length - 8 + i) v = padC L (i + 1) := by
  subst hv
  have := padLen_gt L.length
  have hg := octF_get 8 (8 * L.length) i h
  rw [show 8 - 1 - i = 7 - i from by omega] at hg
  obtain ⟨hl, hg⟩ := List.getElem?_eq_some_iff.1 hg
  rw [padC, padC, show 8 - i = (8 - (i + 1)) + 1 from by omega, List.replicate_succ, List.take_succ_eq_append_getElem hl, hg]
  rw [List.set_append_right _ _ (by simp [octF_length]; omega)]
  have e : padLen L.length - 8 + i - (L ++ [128] ++ List.replicate (padLen L.length - L.length - 9) 0 ++ (octF (8 * L.length) 8).take i).length = 0 := by simp [octF_length]; omega
  rw [e]
  simp
theorem pad_val (n i : Nat) (h : i < 8) : 8 * (n : Int) / 2 ^ (56 - 8 * i) % 256 = ((UInt8.ofNat (8 * n / 256 ^ (7 - i))).toNat : Int) := by
  have e : (2 : Int) ^ (56 - 8 * i) = ((256 ^ (7 - i) : Nat) : Int) := by
    rw [show 56 - 8 * i = 8 * (7 - i) from by omega, Int.pow_mul, Int.natCast_pow]; rfl
  rw [e, show 8 * (n : Int) = ((8 * n : Nat) : Int) from by omega, ← Int.natCast_ediv]
  simp
theorem getB (L : List UInt8) (k : Nat) (h : k < L.length) : (cellsB L)[k]? = some (.int .u8 ((L.getD k 0).toNat : Int)) := by
  simp [cellsB, h]
theorem setB (L : List UInt8) (k : Nat) (v : UInt8) : (cellsB L).set k (.int .u8 (v.toNat : Int)) = cellsB (L.set k v) := by simp [cellsB, List.map_set]
theorem rangeB0 {w : World} {b : Nat} {L : List UInt8} (h : w.rangeAt b 0 (cellsB L)) (k : Nat) (hk : k < L.length) : w.cell? ⟨b, k, none⟩ = some (.int .u8 ((L.getD k 0).toNat : Int)) := by
  have := h k _ (getB L k hk); rwa [Nat.zero_add] at this

/-- behind the copy into new memory -/
structure PadW (w M : World) (m : Nat) (X : List UInt8) : Prop where
  size : M.heap.size = w.heap.size + 1
  below : Below w.heap.size w M
  row : M.rangeAt w.heap.size 0 (cellsB X)
  there : M.there w.heap.size 0 m
theorem padW_make (w : World) (L : List UInt8) (m : Nat) (T : TypeId) (h : L.length ≤ m) : PadW w ((w.alloc (.cells (madeCells #[.int .u8 0] m) T)).setCells w.heap.size 0 (cellsB L)) m (L ++ List.replicate (m - L.length) 0) := by
  have hth : (w.alloc (.cells (madeCells #[.int .u8 0] m) T)).there w.heap.size 0 m := there_new _ _ _ _ _ rfl (by rw [madeCells_one]; simp)
  refine ⟨by rw [size_setCells]; simp, below_setCells (Nat.le_refl _) _ _ _ _ ((Below.refl _ _).alloc (Nat.le_refl _) _), fun j v hv => ?_, World.there_setCells hth _ _ _⟩
  rw [cellsB, List.map_append] at hv
  by_cases hj : j < L.length
  · rw [List.getElem?_append_left (by simpa using hj)] at hv
    exact World.rangeAt_setCells_same _ _ _ (cellsB L) (there_sub hth (Nat.le_refl _) (by rw [cellsB_length]; omega)) j v hv
  · rw [List.getElem?_append_right (by simpa using hj)] at hv
    rw [World.cell?_setCells_out _ _ _ _ _ (fun _ _ => Or.inr (by show 0 + (cellsB L).length ≤ 0 + j; rw [cellsB_length]; omega)), World.cell?_alloc_at _ _ _ _ rfl, madeCells_one]
    simp only [List.map_replicate, List.length_map, List.getElem?_replicate] at hv
    simp only [List.getElem?_toArray, List.getElem?_replicate]
    split at hv
    · rw [if_pos (by omega)]; exact hv
    · cases hv

set_option maxRecDepth 100000 in
set_option maxHeartbeats 400000 in
theorem padded_any (s : ByteArray) (w : World) (hs : s.size ≤ 140737488355328) :
    Calls Tryd.prog 27 #[.string s] w fun e w' => e = .returned (.string ⟨(s.data.toList ++ padF s.data.toList).toArray⟩) ∧ Below w.heap.size w w' := by
  obtain ⟨m, hm⟩ : ∃ m, m = padLen s.size := ⟨_, rfl⟩
  have hm2 : (s.size : Int) + 8 ≤ m := by subst hm; unfold padLen; omega
  have hm3 : m ≤ 140737488355456 := by subst hm; unfold padLen; omega
  have hmk := fun w => run_make_row' (P := Tryd.prog) 51 5 (.int .u8 0) 1 Tryd.underlying51 Tryd.info5 rfl .i64 .i64 m (by omega) (by omega) w
  have hme : ((s.size : Int) + 8) / 64 * 64 + 64 = (m : Int) := by subst hm; unfold padLen; omega
  have hsl : s.data.toList.length = s.size := by rw [Array.length_toList]; rfl
  obtain ⟨M, hM, hcp⟩ : ∃ M, PadW w M m (s.data.toList ++ List.replicate (m - s.data.toList.length) 0) ∧ (Builtin.copy_ #[51, 9] 3 #[.slice (some ⟨w.heap.size, 0, none⟩) m m, .string s]).run Tryd.prog (w.alloc (.cells (madeCells #[.int .u8 0] m) 5)) = .ok (goInt s.size) M := by
    refine ⟨_, padW_make w s.data.toList m 5 (by omega), ?_⟩
    have := run_copy_str (P := Tryd.prog) (w.alloc (.cells (madeCells #[.int .u8 0] m) 5)) 51 3 5 Tryd.underlying51 (by kernel_rfl) 9 w.heap.size 0 m m s.size s (Nat.min_eq_left (by omega)) (there_sub (n := m) (there_new _ _ _ _ _ rfl (by rw [madeCells_one, List.size_toArray, List.length_replicate])) (Nat.le_refl _) (by omega))
    rw [List.take_of_length_le (by omega)] at this
    exact this
  have HM : Hid (PadW w M m (s.data.toList ++ List.replicate (m - s.data.toList.length) 0)) := hM
  have hMs := hM.size
  have hXl : (s.data.toList ++ List.replicate (m - s.data.toList.length) (0 : UInt8)).length = m := by simp; omega
  have hc0 : M.cell? ⟨w.heap.size, s.size, none⟩ = some (.int .u8 _) := rangeB0 hM.row s.size (by rw [hXl]; omega)
  have hf0 : M.frozen? ⟨w.heap.size, s.size, none⟩ = false := by have := (hM.there s.size (by omega)).2; rwa [Nat.zero_add] at this
  have hlt : (s.size : Int) < (m : Int) := by omega
  have HSL : Hid (s.data.toList.length = s.size) := hsl
  have Hm : Hid (m = padLen s.size) := hm
  clear hm hM hXl hsl
  go_enter Tryd.func27, Tryd.ntmps27
  go_wp2_with fail
  go_loopw [5] (fun x wr => ∃ (i : Nat), i ≤ 8 ∧ x = .int .i64 i ∧ Below w.heap.size w wr ∧ wr.rangeAt w.heap.size 0 (cellsB (padC s.data.toList i)) ∧ wr.there w.heap.size 0 m) (fun x _ => 8 - (intOf x).toNat)
  case atStart =>
    refine ⟨0, by omega, rfl, HM.out.below.setCell (p := ⟨w.heap.size, s.size, none⟩) (Nat.le_refl _) _, ?_, there_set HM.out.there _ _ _⟩
    have := range_set (k := s.size) HM.out.row (.int .u8 128)
    rw [show (Value.int .u8 128) = Value.int .u8 ((128 : UInt8).toNat : Int) from rfl, setB] at this
    have e := padC_start s.data.toList
    rw [HSL.out] at e this
    rw [← e, ← Hm.out]
    exact this
  case round =>
    obtain ⟨i, hi, rfl, hb, hr, ht⟩ := hrel
    have hpl := padC_length s.data.toList i hi
    rw [HSL.out, ← Hm.out] at hpl
    clear hc0 hf0 hcp hmk hme
    by_cases h8 : i < 8
    · have h8' : (i : Int) < 8 := by omega
      obtain ⟨j, hj⟩ : ∃ j, j = m - 8 + i := ⟨_, rfl⟩
      have hji : (m : Int) - 8 + (i : Int) = (j : Int) := by omega
      have hjm : (j : Int) < (m : Int) := by omega
      have hc : wr.cell? ⟨w.heap.size, j, none⟩ = some (.int .u8 _) := rangeB0 hr j (by rw [hpl]; omega)
      have hf : wr.frozen? ⟨w.heap.size, j, none⟩ = false := by have := (ht j (by omega)).2; rwa [Nat.zero_add] at this
      have b3 : (0 : Int) ≤ 56 - 8 * (i : Int) := by omega
      have b4 : 8 * (s.size : Int) ≤ 9223372036854775807 := by omega
      have Hr : Hid _ := hr
      have Ht : Hid _ := ht
      have Hj : Hid (j = m - 8 + i) := hj
      clear hr ht hj hpl
      have Hv : Hid _ := pad_val s.size i h8
      go_wp2_with fail
      rw [Hv.out]
      refine ⟨⟨i + 1, by omega, by go_num, hb.setCell (p := ⟨w.heap.size, j, none⟩) (Nat.le_refl _) _, ?_, there_set Ht.out _ _ _⟩, by simp [intOf]; omega⟩
      have := range_set (k := j) Hr.out (.int .u8 ((UInt8.ofNat (8 * s.size / 256 ^ (7 - i))).toNat : Int))
      rw [setB] at this
      have e := padC_set s.data.toList i h8 (UInt8.ofNat (8 * s.size / 256 ^ (7 - i))) (by rw [HSL.out])
      rw [HSL.out, ← Hm.out, ← Hj.out] at e
      rw [← e]
      exact this
    · have hi8 : i = 8 := by omega
      subst hi8
      clear h8 hi
      rw [padC_end] at hr hpl
      have hcv := run_convert_bytes_back (P := Tryd.prog) wr 51 9 5 ⟨w.heap.size, 0, none⟩ m (s.data.toList ++ padF s.data.toList) Tryd.underlying51 Tryd.underlying5 Tryd.underlying9
        (fun j hj => by
          rw [Addr.add_mid]
          have := hr j _ (getB _ j hj)
          rw [this, List.getD_eq_getElem?_getD, List.getElem?_eq_getElem hj]; rfl)
      rw [hpl] at hcv
      generalize hZ : s.data.toList ++ padF s.data.toList = Z at *
      have HZ : Hid (s.data.toList ++ padF s.data.toList = Z) := hZ
      clear hZ hr ht hpl
      go_wp2_with fail
      go_ret
      exact ⟨ret_str HZ.out.symm, hb⟩

end Go.Proofs.YtkmoglhgkcnalaaDoor
