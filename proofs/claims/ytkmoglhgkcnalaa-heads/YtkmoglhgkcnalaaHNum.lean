import Derived.Test.YtkmoglhgkcnalaaRows
import Derived.Test.YtkmoglhgkcnalaaMath
import Derived.Test.YtkmoglhgkcnalaaAid
import Derived.WalkKit
import Derived.WalkSpells
import Derived.WalkLawsBesides
import Derived.Deep.QuietTactic
import Derived.BigQuiet
import Derived.Deep.MidRow
import Derived.Deep.OwnRows
namespace Go.Proofs.Ytkmoglhgkcnalaa
open Go.RowKit

theorem take_snoc (s : ByteArray) (k : Nat) (h : k < s.size) : s.data.toList.take (k + 1) = s.data.toList.take k ++ [s[k]] := by
  rw [List.take_succ_eq_append_getElem (by simpa using h)]; rfl

set_option maxHeartbeats 400000 in
theorem number_any (s : ByteArray) (w : World) (hs : s.size ≤ 8) :
    Calls Try.prog 29 #[.string s] w fun e w' => e = .returned (.int .u64 (numF s.data.toList)) ∧ w' = w := by
  go_enter Try.func29, Try.ntmps29
  go_wp2
  go_loop [3, 4, 7] (fun n j i => ∃ k : Nat, k ≤ s.size ∧ i = .int .i64 k ∧ n = .int .u64 (numF (s.data.toList.take k))) (fun _ _ i => s.size - (intOf i).toNat)
  case atStart => exact ⟨0, Nat.zero_le _, rfl, rfl⟩
  case round =>
    obtain ⟨k, hk, rfl, rfl⟩ := hrel
    by_cases hlt : k < s.size
    · have hn := numF_lt (s.data.toList.take k) 7 (by simp; omega)
      go_wp2
      go_round
      case rel => exact ⟨k + 1, by omega, by go_num, by rw [take_snoc s k hlt, numF_snoc, num_step _ _ hn.1 (by omega)]⟩
      case measure => simp [intOf]; omega
    · go_wp2
      go_ret
      exact ⟨ret_int (by rw [List.take_of_length_le (by simp; omega)]), rfl⟩

theorem Try.info5 : (Try.prog.info? 5).map (fun i => (i.zero, i.size, i.bytes)) = some (some (.int .u8 0), 1, 1) := by kernel_rfl

set_option maxHeartbeats 400000 in
theorem text_any (n k : Nat) (w : World) (hk : k ≤ 8) :
    Calls Try.prog 42 #[.int .u64 n, .int .i64 k] w fun e w' => e = .returned (.string ⟨(octF n k).toArray⟩) ∧ Below w.heap.size w w' := by
  have hmk := fun w => run_make_row' (P := Try.prog) 46 5 (.int .u8 0) 1 Try.underlying46 Try.info5 rfl .i64 .i64 k (by omega) (by omega) w
  go_enter Try.func42, Try.ntmps42
  go_wp2
  go_loopw [0, 6] (fun x i wr => ∃ m : Nat, m ≤ k ∧ i = .int .i64 ((m : Int) - 1) ∧ x = .int .u64 ((n / 256 ^ (k - m) : Nat) : Int) ∧ wr = w.alloc (.cells (txt n k m).toArray 5)) (fun _ i _ => (intOf i + 1).toNat)
  case atStart => exact ⟨k, Nat.le_refl _, rfl, by simp, by rw [txt_start, madeCells_one]⟩
  case round =>
    obtain ⟨m, hm, rfl, rfl, rfl⟩ := hrel
    cases m with
    | zero =>
      have hl := octF_length k n
      have hcv := run_convert_bytes_back (P := Try.prog) (w.alloc (.cells (cellsB (octF n k)).toArray 5)) 46 9 5 ⟨w.heap.size, 0, none⟩ k (octF n k) Try.underlying46 Try.underlying5 Try.underlying9
        (fun j hj => by rw [Addr.add_mid, World.cell?_alloc_at _ _ _ _ rfl]; simp [cellsB, hj])
      rw [hl] at hcv
      rw [txt_end]
      generalize hL : octF n k = L at *
      have HL : Hid (octF n k = L) := hL
      clear hL hl
      go_wp2
      go_ret
      exact ⟨ret_str HL.out.symm, (Below.refl _ _).alloc (Nat.le_refl _) _⟩
    | succ p =>
      rw [show ((p + 1 : Nat) : Int) - 1 = (p : Int) from by omega]
      have hg := txt_get n k p
      have hsz := txt_length n k (p + 1) hm
      go_wp2
      go_roundw
      case rel => exact ⟨p, by omega, rfl, by rw [show k - p = k - (p + 1) + 1 from by omega, Nat.pow_succ, ← Nat.div_div_eq_div_mul]; simp, by rw [txt_set n k p (by omega) _ (by simp)]⟩
      case measure => simp [intOf]

end Go.Proofs.Ytkmoglhgkcnalaa
