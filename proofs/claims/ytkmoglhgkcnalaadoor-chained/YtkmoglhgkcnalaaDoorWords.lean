import Derived.Test.YtkmoglhgkcnalaaDoorRows
import Derived.Test.YtkmoglhgkcnalaaDoorMath
import Derived.Test.YtkmoglhgkcnalaaDoorAid
import Derived.WalkKit
import Derived.WalkSpells
import Derived.WalkLawsBesides
import Derived.Deep.QuietTactic
import Derived.BigQuiet
import Derived.Deep.MidRow
import Derived.Deep.OwnRows
namespace Go.Proofs.YtkmoglhgkcnalaaDoor
open Go.RowKit

set_option maxHeartbeats 400000 in
theorem rot_any (x k : Int) (w : World) :
    Calls Tryd.prog 71 #[.int .u32 x, .int .i64 k] w fun e w' => e = .returned (.int .u32 (rotF x k)) ∧ w' = w := by
  have h0 := bits_u64_nonneg .and (IntKind.u64.wrap k) 31
  go_enter Tryd.func71, Tryd.ntmps71
  go_wp2
  go_ret
  exact ⟨rfl, rfl⟩

set_option maxHeartbeats 400000 in
theorem turned_any (x a b c : Int) (w : World) (a0 : 0 ≤ a) (a1 : a ≤ 31) (b0 : 0 ≤ b) (b1 : b ≤ 31) (c0 : 0 ≤ c) (c1 : c ≤ 31) :
    Calls Tryd.prog 55 #[.int .u32 x, .int .i64 a, .int .i64 b, .int .i64 c] w fun e w' => e = .returned (.int .u32 (turnedF x a b c)) ∧ w' = w := by
  go_enter Tryd.func55, Tryd.ntmps55
  go_wp2_with (go_at_call 71; refine (rot_any _ _ _).mono ?_; rintro e w' ⟨rfl, rfl⟩)
  go_ret
  exact ⟨rfl, rfl⟩

set_option maxHeartbeats 400000 in
theorem shifted_any (x a b c : Int) (w : World) (a0 : 0 ≤ a) (a1 : a ≤ 31) (b0 : 0 ≤ b) (b1 : b ≤ 31) (c0 : 0 ≤ c) (c1 : c ≤ 31) :
    Calls Tryd.prog 70 #[.int .u32 x, .int .i64 a, .int .i64 b, .int .i64 c] w fun e w' => e = .returned (.int .u32 (shiftedF x a b c)) ∧ ∃ n, w' = w.drewN n := by
  go_enter Tryd.func70, Tryd.ntmps70
  go_wp2
  go_quiet ((go_at_call 71; exact Calls.quiet_of_same (rot_any _ _ _)))
  go_wp2
  go_ret
  exact ⟨rfl, _, rfl⟩

theorem take_snoc (s : ByteArray) (k : Nat) (h : k < s.size) : s.data.toList.take (k + 1) = s.data.toList.take k ++ [s[k]] := by
  rw [List.take_succ_eq_append_getElem (by simpa using h)]; rfl

set_option maxHeartbeats 400000 in
theorem number_any (s : ByteArray) (w : World) (hs : s.size ≤ 8) :
    Calls Tryd.prog 63 #[.string s] w fun e w' => e = .returned (.int .u64 (numF s.data.toList)) ∧ w' = w := by
  go_enter Tryd.func63, Tryd.ntmps63
  go_wp2
  go_loop [3, 4, 7] (fun n j i => ∃ k : Nat, k ≤ s.size ∧ i = .int .i64 k ∧ n = .int .u64 (numF (s.data.toList.take k))) (fun _ _ i => s.size - (intOf i).toNat)
  case atStart => exact ⟨0, Nat.zero_le _, rfl, rfl⟩
  case round =>
    obtain ⟨k, hk, rfl, rfl⟩ := hrel
    by_cases hlt : k < s.size
    · have hn := numF_lt (s.data.toList.take k) 7 (by simp; omega)
      go_wp2
      go_round
      case rel => exact ⟨k + 1, by omega, by go_num, by rw [take_snoc s k hlt, numF_snoc, num_step _ _ hn.1 (by omega)]⟩
      case measure => simp [intOf]; omega
    · go_wp2
      go_ret
      exact ⟨ret_int (by rw [List.take_of_length_le (by simp; omega)]), rfl⟩

theorem Tryd.info5 : (Tryd.prog.info? 5).map (fun i => (i.zero, i.size, i.bytes)) = some (some (.int .u8 0), 1, 1) := by kernel_rfl

set_option maxHeartbeats 400000 in
theorem text_any (n k : Nat) (w : World) (hk : k ≤ 8) :
    Calls Tryd.prog 56 #[.int .u64 n, .int .i64 k] w fun e w' => e = .returned (.string ⟨(octF n k).toArray⟩) ∧ Below w.heap.size w w' := by
  have hmk := fun w => run_make_row' (P := Tryd.prog) 51 5 (.int .u8 0) 1 Tryd.underlying51 Tryd.info5 rfl .i64 .i64 k (by omega) (by omega) w
  go_enter Tryd.func56, Tryd.ntmps56
  go_wp2
  go_loopw [0, 6] (fun x i wr => ∃ m : Nat, m ≤ k ∧ i = .int .i64 ((m : Int) - 1) ∧ x = .int .u64 ((n / 256 ^ (k - m) : Nat) : Int) ∧ wr = w.alloc (.cells (txt n k m).toArray 5)) (fun _ i _ => (intOf i + 1).toNat)
  case atStart => exact ⟨k, Nat.le_refl _, rfl, by simp, by rw [txt_start, madeCells_one]⟩
  case round =>
    obtain ⟨m, hm, rfl, rfl, rfl⟩ := hrel
    cases m with
    | zero =>
      have hl := octF_length k n
      have hcv := run_convert_bytes_back (P := Tryd.prog) (w.alloc (.cells (cellsB (octF n k)).toArray 5)) 51 9 5 ⟨w.heap.size, 0, none⟩ k (octF n k) Tryd.underlying51 Tryd.underlying5 Tryd.underlying9
        (fun j hj => by rw [Addr.add_mid, World.cell?_alloc_at _ _ _ _ rfl]; simp [cellsB, hj])
      rw [hl] at hcv
      rw [txt_end]
      generalize hL : octF n k = L at *
      have HL : Hid (octF n k = L) := hL
      clear hL hl
      go_wp2
      go_ret
      exact ⟨ret_str HL.out.symm, (Below.refl _ _).alloc (Nat.le_refl _) _⟩
    | succ p =>
      rw [show ((p + 1 : Nat) : Int) - 1 = (p : Int) from by omega]
      have hg := txt_get n k p
      have hsz := txt_length n k (p + 1) hm
      go_wp2
      go_roundw
      case rel => exact ⟨p, by omega, rfl, by rw [show k - p = k - (p + 1) + 1 from by omega, Nat.pow_succ, ← Nat.div_div_eq_div_mul]; simp, by rw [txt_set n k p (by omega) _ (by simp)]⟩
      case measure => simp [intOf]

/-- U64 -/
theorem u64_any (n : Nat) (w : World) :
    Calls Tryd.prog 47 #[.int .u64 n] w fun e w' => e = .returned (.string ⟨(octF n 8).toArray⟩) ∧ Below w.heap.size w w' := by
  go_enter Tryd.func47, Tryd.ntmps47
  go_wp2_with (go_at_call 56; refine (text_any n 8 _ (by omega)).mono ?_; rintro e w' ⟨rfl, hb⟩)
  go_ret
  exact ⟨rfl, hb⟩

end Go.Proofs.YtkmoglhgkcnalaaDoor
