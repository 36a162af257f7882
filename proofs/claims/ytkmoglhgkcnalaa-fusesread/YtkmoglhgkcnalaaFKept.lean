/- The law's kept, at a list that reads as it was. -/
import Derived.Test.YtkmoglhgkcnalaaFPlain
namespace Go.Proofs.Ytkmoglhgkcnalaa
open Go.RowKit

set_option maxRecDepth 100000 in
set_option maxHeartbeats 1000000 in
theorem kept_eq (l : List Int) (g : Nat) (al : Option Addr) (cl : Nat) (w : World) (hl : l.length ≤ 20000000000000) (hg : w.rangeAt g 0 (cellsI (l ++ [77, 77, 77, 77])))
    (hal : ∀ k, k < l.length → ∃ b off, al = some ⟨b, off, none⟩ ∧ w.cell? ⟨b, off + k, none⟩ = some (.int .i64 (l.getD k 0))) :
    Calls Try.prog 9 #[.slice (some ⟨g, 0, none⟩) l.length (l.length + 4), .slice al l.length cl] w fun e w' => e = .returned (.bool true) ∧ ∃ n, w' = w.drewN n := by
  have Hg : Hid (w.rangeAt g 0 (cellsI (l ++ [77, 77, 77, 77]))) := hg
  have Hal : Hid (∀ k, k < l.length → ∃ b off, al = some ⟨b, off, none⟩ ∧ w.cell? ⟨b, off + k, none⟩ = some (.int .i64 (l.getD k 0))) := hal
  clear hg hal
  have hw4 : IntKind.i64.wrap ((l.length : Int) + 4) = ((l.length + 4 : Nat) : Int) := by rw [wrap_small _ (by omega) (by omega)]; omega
  have hb4 : ((l.length + 4 : Nat) : Int) ≤ ((l.length + 4 : Nat) : Int) := by omega
  go_enter Try.func9, Try.ntmps9
  go_wp2_with fail
  go_loopw [6] (fun i wr => ∃ (k m : Nat), k ≤ l.length + 4 ∧ i = .int .i64 k ∧ wr = w.drewN m) (fun i _ => l.length + 4 - (intOf i).toNat)
  case atStart => exact ⟨0, 0, by omega, rfl, rfl⟩
  case round =>
    obtain ⟨k, m, hk, rfl, rfl⟩ := hrel
    by_cases hlt : k < l.length + 4
    · have hlt' : (k : Int) < (l.length : Int) + 4 := by omega
      have hlt'' : (k : Int) < ((l.length + 4 : Nat) : Int) := by omega
      by_cases hin : k < l.length
      · have hin' : (k : Int) < (l.length : Int) := by omega
        obtain ⟨b, off, rfl, c2⟩ := Hal.out k hin
        have c1 : w.cell? ⟨g, k, none⟩ = some (.int .i64 (l.getD k 0)) := by
          have := rangeI0 Hg.out k (by simp; omega)
          rwa [List.getD_eq_getElem?_getD, List.getElem?_append_left hin, ← List.getD_eq_getElem?_getD] at this
        generalize l.getD k 0 = x at *
        have hxx : (x == x) = true := by simp
        have hge : ¬ (l.length : Int) ≤ (k : Int) := by omega
        have hgeN : ¬ l.length ≤ k := by omega
        go_wp2_with fail
        go_quiet (fail)
        go_wp2_with fail
        go_roundw
        case rel => exact ⟨k + 1, _, by omega, by go_num, rfl⟩
        case measure => simp [intOf]; omega
      · have hin' : ¬ (k : Int) < (l.length : Int) := by omega
        have hge : (l.length : Int) ≤ (k : Int) := by omega
        have c1 : w.cell? ⟨g, k, none⟩ = some (.int .i64 77) := by
          have := rangeI0 Hg.out k (by simp; omega)
          rw [List.getD_eq_getElem?_getD, List.getElem?_append_right (by omega)] at this
          obtain ⟨d, hd⟩ : ∃ d, d = k - l.length := ⟨_, rfl⟩
          rw [← hd] at this
          have hd4 : d < 4 := by omega
          match d, hd4, this with
          | 0, _, t => exact t
          | 1, _, t => exact t
          | 2, _, t => exact t
          | 3, _, t => exact t
        go_wp2_with fail
        go_quiet (fail)
        go_wp2_with fail
        go_roundw
        case rel => exact ⟨k + 1, _, by omega, by go_num, rfl⟩
        case measure => simp [intOf]; omega
    · have hkl : k = l.length + 4 := by omega
      subst hkl
      have hlt' : ¬ ((l.length + 4 : Nat) : Int) < ((l.length + 4 : Nat) : Int) := by omega
      go_wp2_with fail
      go_ret
      exact ⟨rfl, _, rfl⟩

end Go.Proofs.Ytkmoglhgkcnalaa
