/- The reference's small functions on words. -/
import Derived.Test.YtkmoglhgkcnalaaDoorWords
import Derived.Test.YtkmoglhgkcnalaaDoorRefMath
namespace Go.Proofs.YtkmoglhgkcnalaaDoor
open Go.RowKit

set_option maxHeartbeats 400000 in
theorem right_any (x : Int) (k : Nat) (w : World) (hx : Wd x) (h1 : 2 ≤ k) (h2 : k ≤ 31) :
    Calls Tryd.prog 53 #[.int .i64 x, .int .i64 (k : Int)] w fun e w' => e = .returned (.int .i64 (rotF x (-(k : Int)))) ∧ ∃ n, w' = w.drewN n := by
  have hr : Hid _ := right_w x k hx h1 h2
  have hs : Hid _ := shl_w x k hx h1
  obtain ⟨hx0, hx1⟩ := hx
  have e1 : min k 64 = k := by omega
  have e2 : min (32 - k) 64 = 32 - k := by omega
  go_enter Tryd.func53, Tryd.ntmps53
  go_wp2
  go_quiet (fail)
  go_wp2
  go_ret
  exact ⟨ret_int (by rw [hs.out]; exact hr.out), _, rfl⟩

set_option maxHeartbeats 400000 in
theorem refTurns_any (x : Int) (a b c : Nat) (w : World) (hx : Wd x) (ha : 2 ≤ a) (ha2 : a ≤ 31) (hb : 2 ≤ b) (hb2 : b ≤ 31) (hc : 2 ≤ c) (hc2 : c ≤ 31) :
    Calls Tryd.prog 45 #[.int .i64 x, .int .i64 (a : Int), .int .i64 (b : Int), .int .i64 (c : Int)] w fun e w' => e = .returned (.int .i64 (turnedF x a b c)) ∧ ∃ n, w' = w.drewN n := by
  go_enter Tryd.func45, Tryd.ntmps45
  go_wp2_with fail
  refine (right_any x a _ hx ha ha2).mono ?_
  rintro e w1 ⟨rfl, n1, rfl⟩
  go_wp2_with fail
  refine (right_any x b _ hx hb hb2).mono ?_
  rintro e w1 ⟨rfl, n2, rfl⟩
  go_wp2_with fail
  refine (right_any x c _ hx hc hc2).mono ?_
  rintro e w1 ⟨rfl, n3, rfl⟩
  go_wp2
  go_ret
  refine ⟨ret_int ?_, n1 + n2 + n3, rfl⟩
  rw [xor_w (rot_wd _ _) (rot_wd _ _), xor_w (u32_bd _ _ _) (rot_wd _ _)]
  rfl

set_option maxHeartbeats 400000 in
theorem refMixed_any (x : Int) (a b c : Nat) (w : World) (hx : Wd x) (ha : 2 ≤ a) (ha2 : a ≤ 31) (hb : 2 ≤ b) (hb2 : b ≤ 31) (hc2 : c ≤ 31) :
    Calls Tryd.prog 44 #[.int .i64 x, .int .i64 (a : Int), .int .i64 (b : Int), .int .i64 (c : Int)] w fun e w' => e = .returned (.int .i64 (shiftedF x a b c)) ∧ ∃ n, w' = w.drewN n := by
  go_enter Tryd.func44, Tryd.ntmps44
  go_wp2_with fail
  refine (right_any x a _ hx ha ha2).mono ?_
  rintro e w1 ⟨rfl, n1, rfl⟩
  go_wp2_with fail
  refine (right_any x b _ hx hb hb2).mono ?_
  rintro e w1 ⟨rfl, n2, rfl⟩
  have e1 : min c 64 = c := by omega
  go_wp2
  go_ret
  refine ⟨ret_int ?_, n1 + n2, rfl⟩
  rw [xor_w (rot_wd _ _) (rot_wd _ _), xor_w (u32_bd _ _ _) (div_wd hx _)]
  rfl

end Go.Proofs.YtkmoglhgkcnalaaDoor
