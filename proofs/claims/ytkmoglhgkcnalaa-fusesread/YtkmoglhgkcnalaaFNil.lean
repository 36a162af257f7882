/- Lists of another length (nil among them): the reference. -/
import Derived.Test.YtkmoglhgkcnalaaFRefF
import Derived.Test.YtkmoglhgkcnalaaFNum
namespace Go.Proofs.Ytkmoglhgkcnalaa
open Go.RowKit

set_option maxRecDepth 100000 in
theorem refWords_len (al : Option Addr) (n cap : Nat) (w : World) (hn : n ≠ 85) :
    Calls Try.prog 14 #[.slice al n cap] w fun e w' => e = .returned (.bool false) ∧ w' = w := by
  have hb : ((n : Int) == 85) = false := by rw [beq_eq_false_iff_ne]; omega
  go_enter Try.func14, Try.ntmps14
  go_wp2
  go_ret
  exact ⟨rfl, rfl⟩

set_option maxRecDepth 100000 in
theorem areWords_len (al : Option Addr) (n cap : Nat) (w : World) (hn : n ≠ 85) :
    Calls Try.prog 22 #[.slice al n cap] w fun e w' => e = .returned (.bool false) ∧ w' = w := by
  have hb : ((n : Int) == 85) = false := by rw [beq_eq_false_iff_ne]; omega
  go_enter Try.func22, Try.ntmps22
  go_wp2
  go_ret
  exact ⟨rfl, rfl⟩

set_option maxRecDepth 100000 in
set_option maxHeartbeats 1000000 in
theorem refFuses_len (l : List Int) (al : Option Addr) (cap : Nat) (w : World) (hn : l.length ≠ 85) :
    Calls Try.prog 7 #[.slice al l.length cap] w fun e w' => ∃ s le u h code, e = .returned (.tuple #[.agg (fusV s u le h).toArray, .int .i64 code]) ∧ Below w.heap.size w w' ∧ FusAns w' w.heap.size l s le u h code := by
  have hA : areB l = false := by rw [areB, Bool.and_eq_false_iff]; exact .inl (by rw [beq_eq_false_iff_ne]; exact hn)
  have HF : Hid (fusF l = (0, [], 0, [], 11)) := by show fusF l = _; rw [fusF, if_neg (by rw [hA]; simp)]
  have Hn : Hid (l.length ≠ 85) := hn
  clear hA hn
  go_enter Try.func7, Try.ntmps7
  go_wp2_with fail
  refine (refWords_len al l.length cap _ Hn.out).mono ?_
  rintro e w1 ⟨rfl, rfl⟩
  have Hth : Hid ((w.alloc (.cells #[.int .i64 0, .slice none 0 0, .int .i64 0, .slice none 0 0] 27)).there w.heap.size 0 (fusV 0 (.slice none 0 0) 0 (.slice none 0 0)).toArray.size) := there_new _ _ _ _ _ rfl rfl
  go_wp2_with (refine wpList_store_mid rfl 27 (.tmp 2) (.tmp 18) rfl w.heap.size 0 (fusV 0 (.slice none 0 0) 0 (.slice none 0 0)).toArray rfl rfl Hth.out (by kernel_rfl) (by kernel_rfl) ?_)
  exact bodyPost_ret (v := .tuple #[.agg (fusV 0 (.slice none 0 0) 0 (.slice none 0 0)).toArray, .int .i64 11]) (results_cell_tmp (p := 2) (q := 3) (ty := 27) (by kernel_rfl) _ _ w.heap.size 0 (fusV 0 (.slice none 0 0) 0 (.slice none 0 0)) _ _ rfl (World.rangeAt_setCells_same _ _ _ _ Hth.out) rfl Try.underlying27 rfl (by kernel_rfl)) rfl ⟨0, 0, _, _, 11, rfl, below_setCells (Nat.le_refl _) _ _ _ _ ((Below.refl _ _).alloc (Nat.le_refl _) _), fusAns_none _ _ _ _ HF.out⟩

end Go.Proofs.Ytkmoglhgkcnalaa
